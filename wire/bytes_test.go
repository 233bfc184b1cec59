package wire_test

import (
	"math"
	"reflect"
	"slices"
	"testing"

	"antiphon/api"
	"antiphon/wire"
)

func version(clock, server int) api.Version {
	return api.Version{Clock: clock, Server: server}
}

func dep(key, clock, server int) api.Dep {
	return api.Dep{Key: key, Version: version(clock, server)}
}

// pastOf makes a past of n keys, in memory without spare room.
func pastOf(n int) []api.Dep {
	past := make([]api.Dep, n)
	for i := range past {
		past[i] = dep(i, 1, 0)
	}
	return past
}

type sample struct {
	name  string
	m     api.Message
	bytes []byte
}

// samples has each kind, all that the kind has being said, each thing by
// another number, and each number by one byte.
func samples() []sample {
	past := []api.Dep{dep(20, 21, 22), dep(23, 24, 25)}
	return []sample{
		{"PUT", api.Message{Kind: api.Put, From: 1, To: 2, Clock: 3, Op: 4, Key: 6, Value: 7, Past: past},
			[]byte{1, 1, 2, 3, 4, 6, 14, 2, 20, 21, 22, 23, 24, 25}},
		{"PUTTED", api.Message{Kind: api.Putted, From: 1, To: 2, Clock: 3, Op: 4, Key: 6, Version: version(8, 9)},
			[]byte{2, 1, 2, 3, 4, 6, 8, 9}},
		{"GET", api.Message{Kind: api.Get, From: 1, To: 2, Clock: 3, Op: 4, Index: 5, Key: 6},
			[]byte{3, 1, 2, 3, 4, 5, 6}},
		{"GOT", api.Message{Kind: api.Got, From: 1, To: 2, Clock: 3, Op: 4, Index: 5, Key: 6, Version: version(8, 9), Value: -7, Past: past, Settled: true},
			[]byte{4, 1, 2, 3, 4, 5, 6, 8, 9, 13, 2, 20, 21, 22, 23, 24, 25, 1}},
		{"FETCH", api.Message{Kind: api.Fetch, From: 1, To: 2, Clock: 3, Op: 4, Index: 5, Key: 6, Version: version(8, 9)},
			[]byte{5, 1, 2, 3, 4, 5, 6, 8, 9}},
		{"FETCHED", api.Message{Kind: api.Fetched, From: 1, To: 2, Clock: 3, Op: 4, Index: 5, Key: 6, Version: version(8, 9), Value: 7, Past: past, Settled: true},
			[]byte{6, 1, 2, 3, 4, 5, 6, 8, 9, 14, 2, 20, 21, 22, 23, 24, 25, 1}},
		{"COPY", api.Message{Kind: api.Copy, From: 1, To: 2, Clock: 3, Key: 6, Version: version(8, 9), Value: 7, Past: past},
			[]byte{7, 1, 2, 3, 6, 8, 9, 14, 2, 20, 21, 22, 23, 24, 25}},
		{"KEPT", api.Message{Kind: api.Kept, From: 1, To: 2, Clock: 3, Key: 6, Version: version(8, 9)},
			[]byte{8, 1, 2, 3, 6, 8, 9}},
		{"NEED", api.Message{Kind: api.Need, From: 1, To: 2, Clock: 3, Key: 6, Version: version(8, 9), For: dep(10, 11, 12)},
			[]byte{9, 1, 2, 3, 6, 8, 9, 10, 11, 12}},
		{"MET", api.Message{Kind: api.Met, From: 1, To: 2, Clock: 3, Key: 6, Version: version(8, 9), For: dep(10, 11, 12)},
			[]byte{10, 1, 2, 3, 6, 8, 9, 10, 11, 12}},
		{"SEEN", api.Message{Kind: api.Seen, From: 1, To: 2, Clock: 3, Key: 6, Version: version(8, 9)},
			[]byte{11, 1, 2, 3, 6, 8, 9}},
		{"EVERYWHERE", api.Message{Kind: api.Everywhere, From: 1, To: 2, Clock: 3, Key: 6, Version: version(8, 9)},
			[]byte{12, 1, 2, 3, 6, 8, 9}},
	}
}

// same holds a past of nothing, nil or not, for one thing.
func same(a, b api.Message) bool {
	if len(a.Past) == 0 && len(b.Past) == 0 {
		a.Past, b.Past = nil, nil
	}
	return reflect.DeepEqual(a, b)
}

// checkBoth: Encode makes b of m, and Decode makes m of b.
func checkBoth(t *testing.T, m api.Message, b []byte) {
	t.Helper()
	if got, e := wire.Encode(m); !slices.Equal(got, b) || e != api.OK {
		t.Errorf("P3: Encode(%+v) = %v, %d, want %v", m, got, e, b)
	}
	if got, e := wire.Decode(b); !same(got, m) || e != api.OK {
		t.Errorf("P3: Decode(%v) = %+v, %d, want %+v", b, got, e, m)
	}
}

// checkNoMessage: ErrForm, and no bytes beside it.
func checkNoMessage(t *testing.T, m api.Message) {
	t.Helper()
	if b, e := wire.Encode(m); len(b) != 0 || e != api.ErrForm {
		t.Errorf("P3: Encode(%+v) = %v, %d, want ErrForm", m, b, e)
	}
}

// checkNoBytes: ErrForm, and a message of nothing beside it.
func checkNoBytes(t *testing.T, b []byte) {
	t.Helper()
	if m, e := wire.Decode(b); !same(m, api.Message{}) || e != api.ErrForm {
		t.Errorf("P3: Decode(%v) = %+v, %d, want ErrForm", b, m, e)
	}
}

func TestEachKind(t *testing.T) {
	for i, s := range samples() {
		if s.m.Kind != i+1 {
			t.Fatalf("sample %d is of kind %d", i, s.m.Kind)
		}
		t.Run(s.name, func(t *testing.T) { checkBoth(t, s.m, s.bytes) })
	}
}

// TestNothingSaid: each kind may have 0 everywhere, version none too.
func TestNothingSaid(t *testing.T) {
	for i, length := range []int{8, 8, 7, 12, 9, 12, 9, 7, 10, 10, 7, 7} {
		b := make([]byte, length)
		b[0] = byte(i + 1)
		checkBoth(t, api.Message{Kind: i + 1}, b)
	}
}

func TestExample4(t *testing.T) {
	checkBoth(t, api.Message{Kind: api.Put, From: 2, Op: 1, Value: 7}, []byte{1, 2, 0, 0, 1, 0, 14, 0})
}

func TestValues(t *testing.T) {
	for _, c := range []struct {
		value int
		bytes []byte
	}{
		{0, []byte{0}}, {-1, []byte{1}}, {1, []byte{2}}, {-2, []byte{3}},
		{63, []byte{126}}, {-64, []byte{127}}, {64, []byte{128, 1}}, {-65, []byte{129, 1}},
		{math.MaxInt - 1, []byte{252, 255, 255, 255, 255, 255, 255, 255, 255, 1}},
		{math.MinInt + 1, []byte{253, 255, 255, 255, 255, 255, 255, 255, 255, 1}},
		{math.MaxInt, []byte{254, 255, 255, 255, 255, 255, 255, 255, 255, 1}},
		{math.MinInt, []byte{255, 255, 255, 255, 255, 255, 255, 255, 255, 1}},
	} {
		m := api.Message{Kind: api.Put, Value: c.value}
		checkBoth(t, m, slices.Concat([]byte{1, 0, 0, 0, 0, 0}, c.bytes, []byte{0}))
	}
}

func TestNumberLengths(t *testing.T) {
	for _, c := range []struct {
		number int
		bytes  []byte
	}{
		{127, []byte{127}}, {128, []byte{128, 1}}, {300, []byte{172, 2}},
		{1<<14 - 1, []byte{255, 127}}, {1 << 14, []byte{128, 128, 1}},
		{1<<56 - 1, []byte{255, 255, 255, 255, 255, 255, 255, 127}},
		{1 << 56, []byte{128, 128, 128, 128, 128, 128, 128, 128, 1}},
		{math.MaxInt, []byte{255, 255, 255, 255, 255, 255, 255, 255, 127}},
	} {
		m := api.Message{Kind: api.Need, From: c.number, To: c.number, Clock: c.number, Key: c.number,
			Version: version(c.number, c.number), For: dep(c.number, c.number, c.number)}
		checkBoth(t, m, slices.Concat([]byte{9}, slices.Repeat(c.bytes, 9)))
		m = api.Message{Kind: api.Got, Op: c.number, Index: c.number, Past: []api.Dep{dep(c.number, c.number, c.number)}}
		checkBoth(t, m, slices.Concat([]byte{4, 0, 0, 0}, c.bytes, c.bytes, []byte{0, 0, 0, 0, 1}, c.bytes, c.bytes, c.bytes, []byte{0}))
	}
}

func TestPastLengths(t *testing.T) {
	for n := range api.MaxPast + 1 {
		b := []byte{7, 0, 0, 0, 0, 0, 0, 0, byte(n)}
		for key := range n {
			b = append(b, byte(key), 1, 0)
		}
		checkBoth(t, api.Message{Kind: api.Copy, Past: pastOf(n)}, b)
	}
}

// TestPastEdges: a version is none only where both its numbers are 0.
func TestPastEdges(t *testing.T) {
	m := api.Message{Kind: api.Copy, Past: []api.Dep{dep(0, 0, 1), dep(1, 1, 0), dep(5, 1, 1)}}
	checkBoth(t, m, []byte{7, 0, 0, 0, 0, 0, 0, 0, 3, 0, 0, 1, 1, 1, 0, 5, 1, 1})
	checkBoth(t, api.Message{Kind: api.Copy, Past: []api.Dep{}}, []byte{7, 0, 0, 0, 0, 0, 0, 0, 0})
	checkBoth(t, api.Message{Kind: api.Kept, Past: []api.Dep{}}, []byte{8, 0, 0, 0, 0, 0, 0})
}

func TestSettled(t *testing.T) {
	for _, kind := range []int{api.Got, api.Fetched} {
		b := []byte{byte(kind), 0, 0, 0, 0, 0, 0, 0, 0, 0, 0, 0}
		checkBoth(t, api.Message{Kind: kind}, b)
		b[11] = 1
		checkBoth(t, api.Message{Kind: kind, Settled: true}, b)
	}
}
