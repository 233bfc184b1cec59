package wire_test

import (
	"encoding/binary"
	"math"
	"math/rand"
	"slices"
	"testing"

	"antiphon/api"
	"antiphon/wire"
)

// reference writes m's bytes kind by kind, by the library's varints. It
// checks nothing.
func reference(m api.Message) []byte {
	b := []byte{byte(m.Kind)}
	number := func(numbers ...int) {
		for _, n := range numbers {
			b = binary.AppendUvarint(b, uint64(n))
		}
	}
	pair := func(d api.Dep) { number(d.Key, d.Version.Clock, d.Version.Server) }
	valueAndPast := func() {
		b = binary.AppendVarint(b, int64(m.Value))
		number(len(m.Past))
		for _, d := range m.Past {
			pair(d)
		}
	}
	number(m.From, m.To, m.Clock)
	switch m.Kind {
	case api.Put:
		number(m.Op, m.Key)
		valueAndPast()
	case api.Putted:
		number(m.Op)
		pair(api.Dep{Key: m.Key, Version: m.Version})
	case api.Get:
		number(m.Op, m.Index, m.Key)
	case api.Got, api.Fetched:
		number(m.Op, m.Index)
		pair(api.Dep{Key: m.Key, Version: m.Version})
		valueAndPast()
		number(map[bool]int{true: 1}[m.Settled])
	case api.Fetch:
		number(m.Op, m.Index)
		pair(api.Dep{Key: m.Key, Version: m.Version})
	case api.Copy:
		pair(api.Dep{Key: m.Key, Version: m.Version})
		valueAndPast()
	case api.Need, api.Met:
		pair(api.Dep{Key: m.Key, Version: m.Version})
		pair(m.For)
	default:
		pair(api.Dep{Key: m.Key, Version: m.Version})
	}
	return b
}

// drawNumber draws each length of a number as often.
func drawNumber(r *rand.Rand) int {
	return int(r.Uint64()>>1) >> r.Intn(64)
}

func drawPast(r *rand.Rand) []api.Dep {
	keys := map[int]api.Dep{}
	for range r.Intn(api.MaxPast + 1) {
		key := drawNumber(r)
		keys[key] = dep(key, drawNumber(r), drawNumber(r)|1)
	}
	var past []api.Dep
	for _, d := range keys {
		past = append(past, d)
	}
	slices.SortFunc(past, func(a, b api.Dep) int {
		if a.Key < b.Key {
			return -1
		}
		return 1
	})
	return past
}

// drawMessage draws one that says all that its kind has.
func drawMessage(r *rand.Rand) api.Message {
	kind := 1 + r.Intn(12)
	full := samples()[kind-1].m
	m := api.Message{Kind: kind}
	for i, number := range numbersOf(&m) {
		if *numbersOf(&full)[i] != 0 {
			*number = drawNumber(r)
		}
	}
	if full.Value != 0 {
		m.Value = int(r.Uint64()) >> r.Intn(64)
	}
	if full.Past != nil {
		m.Past = drawPast(r)
	}
	m.Settled = full.Settled && r.Intn(2) == 0
	return m
}

func TestDrawnMessages(t *testing.T) {
	r := rand.New(rand.NewSource(1))
	for range 20000 {
		m := drawMessage(r)
		checkBoth(t, m, reference(m))
	}
}

// checkTaken: bytes are refused, or are what Encode makes of the answer.
func checkTaken(t *testing.T, b []byte) bool {
	t.Helper()
	m, e := wire.Decode(b)
	if e != api.OK {
		checkNoBytes(t, b)
		return false
	}
	if again, e := wire.Encode(m); !slices.Equal(again, b) || e != api.OK {
		t.Errorf("P3: Decode(%v) = %+v, but that is %v, %d", b, m, again, e)
	}
	return true
}

// TestEachByte: each sample with each of its bytes changed to each other.
func TestEachByte(t *testing.T) {
	taken := 0
	for _, s := range samples() {
		for place := range s.bytes {
			for other := range 256 {
				if checkTaken(t, replaced(s.bytes, place, byte(other))) {
					taken++
				}
			}
		}
	}
	if taken < 1000 {
		t.Errorf("only %d were taken", taken)
	}
}

func TestDrawnBytes(t *testing.T) {
	r := rand.New(rand.NewSource(2))
	taken := 0
	for range 50000 {
		b := reference(drawMessage(r))
		for range r.Intn(4) {
			b[r.Intn(len(b))] = byte(r.Intn(256))
		}
		if checkTaken(t, b) {
			taken++
		}
		wild := make([]byte, r.Intn(60))
		r.Read(wild)
		checkTaken(t, wild)
	}
	if taken < 1000 {
		t.Errorf("only %d were taken", taken)
	}
}

// TestWildMessages: at any numbers Encode answers, and either way rightly.
func TestWildMessages(t *testing.T) {
	r := rand.New(rand.NewSource(3))
	edges := []int{0, 1, -1, 2, 6, 7, 12, 13, math.MaxInt, math.MinInt}
	for range 50000 {
		m := drawMessage(r)
		if r.Intn(4) == 0 {
			m.Kind = edges[r.Intn(len(edges))]
		}
		numbers := numbersOf(&m)
		for range r.Intn(3) {
			*numbers[r.Intn(len(numbers))] = edges[r.Intn(len(edges))]
		}
		b, e := wire.Encode(m)
		if e == api.OK {
			checkBoth(t, m, reference(m))
		} else if e != api.ErrForm || len(b) != 0 {
			t.Errorf("P1: Encode(%+v) = %v, %d", m, b, e)
		}
	}
}

func FuzzDecode(f *testing.F) {
	for _, s := range samples() {
		f.Add(s.bytes)
	}
	f.Fuzz(func(t *testing.T, b []byte) { checkTaken(t, b) })
}
