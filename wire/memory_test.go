package wire_test

import (
	"slices"
	"testing"

	"antiphon/api"
	"antiphon/wire"
)

// withPast has the samples that have a past, in messages and in bytes.
func withPast() []sample {
	return slices.DeleteFunc(samples(), func(s sample) bool { return len(s.m.Past) == 0 })
}

// TestArgumentsStay: nothing is written into what is handed in, nor into its
// spare room, whether it is taken or not.
func TestArgumentsStay(t *testing.T) {
	for _, s := range withPast() {
		for _, past := range [][]api.Dep{s.m.Past, {dep(3, 1, 0), dep(2, 0, 0), dep(1, 1, 0)}} {
			room := append(slices.Clone(past), dep(90, 91, 92), dep(93, 94, 95))
			was := slices.Clone(room)
			s.m.Past = room[:len(past)]
			wire.Encode(s.m)
			if !slices.Equal(room, was) {
				t.Errorf("P2: Encode of %s made %v of %v", s.name, room, was)
			}
		}
	}
	for _, s := range samples() {
		for length := range len(s.bytes) + 1 {
			room := append(slices.Clone(s.bytes), 90, 91)
			was := slices.Clone(room)
			wire.Decode(room[:length])
			if !slices.Equal(room, was) {
				t.Errorf("P2: Decode of %s made %v of %v", s.name, room, was)
			}
		}
	}
}

// TestArgumentsAreNotKept: what becomes of them later changes no answer.
func TestArgumentsAreNotKept(t *testing.T) {
	for _, s := range withPast() {
		b := slices.Clone(s.bytes)
		m, _ := wire.Decode(b)
		clear(b)
		if !same(m, s.m) {
			t.Errorf("P2: %s: after its bytes were changed: %+v", s.name, m)
		}
		s.m.Past = slices.Clone(s.m.Past)
		b, _ = wire.Encode(s.m)
		clear(s.m.Past)
		if !slices.Equal(b, s.bytes) {
			t.Errorf("P2: %s: after its past was changed: %v", s.name, b)
		}
	}
}

// TestAnswersAreNew: what is written into one, and into its spare room, is
// in no other one, and the next answer is what the first one was.
func TestAnswersAreNew(t *testing.T) {
	for _, s := range withPast() {
		first, _ := wire.Decode(s.bytes)
		second, _ := wire.Decode(s.bytes)
		scribble(first.Past, dep(70, 71, 72))
		third, _ := wire.Decode(s.bytes)
		for _, m := range []api.Message{second, third} {
			if !same(m, s.m) || slices.Contains(m.Past[:cap(m.Past)], dep(70, 71, 72)) {
				t.Errorf("P2: Decode of %s shares its past: %+v", s.name, m)
			}
		}
	}
	for _, s := range samples() {
		first, _ := wire.Encode(s.m)
		second, _ := wire.Encode(s.m)
		scribble(first, 200)
		third, _ := wire.Encode(s.m)
		for _, b := range [][]byte{second, third} {
			if !slices.Equal(b, s.bytes) || slices.Contains(b[:cap(b)], 200) {
				t.Errorf("P2: Encode of %s shares its bytes: %v", s.name, b)
			}
		}
	}
}

func scribble[T any](list []T, one T) {
	list = list[:cap(list)]
	for i := range list {
		list[i] = one
	}
}

// TestRefusalLeavesNothing: a refusal changes no answer that comes after it.
func TestRefusalLeavesNothing(t *testing.T) {
	for _, s := range samples() {
		checkNoBytes(t, s.bytes[:len(s.bytes)-1])
		checkNoMessage(t, api.Message{Kind: -s.m.Kind})
		checkBoth(t, s.m, s.bytes)
	}
}
