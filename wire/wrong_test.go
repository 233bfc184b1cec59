package wire_test

import (
	"math"
	"slices"
	"testing"

	"antiphon/api"
)

func TestNoKind(t *testing.T) {
	for _, kind := range []int{0, 13, 14, 127, 128, 255, 256, 257, 268, -1, -12, -255, math.MaxInt, math.MinInt} {
		checkNoMessage(t, api.Message{Kind: kind})
	}
	for kind := range 256 {
		if kind < api.Put || kind > api.Everywhere {
			for length := 1; length < 14; length++ {
				checkNoBytes(t, append([]byte{byte(kind)}, make([]byte, length-1)...))
			}
		}
	}
}

// numbersOf has all the numbers of m that are no Value.
func numbersOf(m *api.Message) []*int {
	numbers := []*int{&m.From, &m.To, &m.Clock, &m.Op, &m.Index, &m.Key, &m.Version.Clock, &m.Version.Server,
		&m.For.Key, &m.For.Version.Clock, &m.For.Version.Server}
	for i := range m.Past {
		d := &m.Past[i]
		numbers = append(numbers, &d.Key, &d.Version.Clock, &d.Version.Server)
	}
	return numbers
}

// TestBelowZero: no number of any kind, whether the kind has it or not.
func TestBelowZero(t *testing.T) {
	for _, low := range []int{-1, -2, math.MinInt} {
		for _, s := range samples() {
			for _, number := range numbersOf(&s.m) {
				was := *number
				*number = low
				checkNoMessage(t, s.m)
				*number = was
			}
		}
	}
}

// TestSaidTooMuch: each kind, with each thing that another kind has.
func TestSaidTooMuch(t *testing.T) {
	has := func(kind int, kinds ...int) bool { return slices.Contains(kinds, kind) }
	for _, s := range samples() {
		for _, c := range []struct {
			name string
			has  bool
			say  func(m *api.Message)
		}{
			{"Op", has(s.m.Kind, 1, 2, 3, 4, 5, 6), func(m *api.Message) { m.Op = 1 }},
			{"Index", has(s.m.Kind, 3, 4, 5, 6), func(m *api.Message) { m.Index = 1 }},
			{"Version.Clock", !has(s.m.Kind, 1, 3), func(m *api.Message) { m.Version.Clock = 1 }},
			{"Version.Server", !has(s.m.Kind, 1, 3), func(m *api.Message) { m.Version.Server = 1 }},
			{"Value", has(s.m.Kind, 1, 4, 6, 7), func(m *api.Message) { m.Value = 1 }},
			{"Value below 0", has(s.m.Kind, 1, 4, 6, 7), func(m *api.Message) { m.Value = -1 }},
			{"For.Key", has(s.m.Kind, 9, 10), func(m *api.Message) { m.For.Key = 1 }},
			{"For.Version.Clock", has(s.m.Kind, 9, 10), func(m *api.Message) { m.For.Version.Clock = 1 }},
			{"For.Version.Server", has(s.m.Kind, 9, 10), func(m *api.Message) { m.For.Version.Server = 1 }},
			{"Past", has(s.m.Kind, 1, 4, 6, 7), func(m *api.Message) { m.Past = pastOf(1) }},
			{"Settled", has(s.m.Kind, 4, 6), func(m *api.Message) { m.Settled = true }},
		} {
			if !c.has {
				t.Run(s.name+" "+c.name, func(t *testing.T) {
					m := s.m
					c.say(&m)
					checkNoMessage(t, m)
				})
			}
		}
	}
}

// TestNoPast: messages and bytes with a list that is no past.
func TestNoPast(t *testing.T) {
	for _, past := range [][]api.Dep{
		pastOf(api.MaxPast + 1),
		pastOf(200),
		{dep(1, 1, 0), dep(0, 1, 0)},
		{dep(1, 1, 0), dep(1, 1, 0)},
		{dep(1, 1, 0), dep(1, 2, 0)},
		{dep(0, 1, 0), dep(1, 1, 0), dep(2, 1, 0), dep(2, 2, 0)},
		{dep(0, 1, 0), dep(5, 1, 0), dep(4, 1, 0)},
		{dep(0, 0, 0)},
		{dep(0, 1, 0), dep(1, 0, 0)},
		{dep(0, 0, 0), dep(1, 1, 0)},
	} {
		for _, s := range samples() {
			s.m.Past = past
			checkNoMessage(t, s.m)
		}
		checkNoBytes(t, bytesOfPast(past))
	}
}

// bytesOfPast are those of a COPY, if past were one.
func bytesOfPast(past []api.Dep) []byte {
	return reference(api.Message{Kind: api.Copy, Past: past})
}

func TestNegativeInPast(t *testing.T) {
	for _, past := range [][]api.Dep{
		{dep(-1, 1, 0)}, {dep(-2, 1, 0), dep(-1, 1, 0)}, {dep(0, -1, 1)}, {dep(0, 1, -1)}, {dep(0, math.MinInt, math.MinInt)},
	} {
		checkNoMessage(t, api.Message{Kind: api.Copy, Past: past})
	}
}

func TestTooShort(t *testing.T) {
	checkNoBytes(t, nil)
	for _, s := range samples() {
		for length := range len(s.bytes) {
			checkNoBytes(t, s.bytes[:length:length])
			// what stands behind the bytes is not read
			checkNoBytes(t, s.bytes[:length])
		}
	}
}

func TestTooLong(t *testing.T) {
	for _, s := range samples() {
		for more := range 256 {
			checkNoBytes(t, append(slices.Clone(s.bytes), byte(more)))
		}
		checkNoBytes(t, slices.Concat(s.bytes, s.bytes))
	}
}

// replaced has other bytes where b had the one at place.
func replaced(b []byte, place int, other ...byte) []byte {
	return slices.Concat(b[:place], other, b[place+1:])
}

// TestLongVarint: each varint of each kind, longer than it needs to be.
func TestLongVarint(t *testing.T) {
	for _, s := range samples() {
		for place := 1; place < len(s.bytes); place++ {
			was := s.bytes[place] | 128
			checkNoBytes(t, replaced(s.bytes, place, was, 0))
			checkNoBytes(t, replaced(s.bytes, place, was, 128, 0))
			checkNoBytes(t, replaced(s.bytes, place, was, 128, 128, 128, 128, 128, 128, 128, 128, 0))
			checkNoBytes(t, replaced(s.bytes, place, was, 128, 128, 128, 128, 128, 128, 128, 128, 128, 0))
		}
	}
}

// TestGreatVarint: each varint of each kind, of more than 64 bits.
func TestGreatVarint(t *testing.T) {
	for _, s := range samples() {
		for place := 1; place < len(s.bytes); place++ {
			was := s.bytes[place] | 128
			checkNoBytes(t, replaced(s.bytes, place, was, 128, 128, 128, 128, 128, 128, 128, 128, 2))
			checkNoBytes(t, replaced(s.bytes, place, was, 128, 128, 128, 128, 128, 128, 128, 128, 127))
			checkNoBytes(t, replaced(s.bytes, place, was, 128, 128, 128, 128, 128, 128, 128, 128, 128, 1))
			checkNoBytes(t, replaced(s.bytes, place, was, 128, 128, 128, 128, 128, 128, 128, 128, 129, 1))
			checkNoBytes(t, replaced(s.bytes, place, slices.Repeat([]byte{255}, 40)...))
		}
	}
}

// TestGreatNumber: 64 bits are too many for all but a Value.
func TestGreatNumber(t *testing.T) {
	values := map[int]int{api.Put: 6, api.Got: 9, api.Fetched: 9, api.Copy: 7}
	for _, s := range samples() {
		for place := 1; place < len(s.bytes); place++ {
			if place != values[s.m.Kind] {
				checkNoBytes(t, replaced(s.bytes, place, 128, 128, 128, 128, 128, 128, 128, 128, 128, 1))
				checkNoBytes(t, replaced(s.bytes, place, 255, 255, 255, 255, 255, 255, 255, 255, 255, 1))
			}
		}
	}
}

// TestPastCount: a count that the bytes do not bear out.
func TestPastCount(t *testing.T) {
	head := []byte{7, 1, 2, 3, 6, 8, 9, 14}
	for _, count := range [][]byte{{1}, {6}, {7}, {127}, {255, 255, 3}, {255, 255, 255, 255, 7}, {255, 255, 255, 255, 255, 255, 255, 255, 127}, {255, 255, 255, 255, 255, 255, 255, 255, 255, 1}} {
		checkNoBytes(t, slices.Concat(head, count))
		checkNoBytes(t, slices.Concat(head, count, make([]byte, 300)))
	}
}

func TestNoFlag(t *testing.T) {
	for _, s := range samples() {
		if s.m.Settled {
			last := len(s.bytes) - 1
			for flag := 2; flag < 256; flag++ {
				checkNoBytes(t, replaced(s.bytes, last, byte(flag)))
			}
			checkNoBytes(t, replaced(s.bytes, last, 128, 0))
			checkNoBytes(t, replaced(s.bytes, last, 129, 0))
			checkNoBytes(t, replaced(s.bytes, last, 129, 1))
			checkNoBytes(t, replaced(s.bytes, last, 128, 2))
		}
	}
}
