package antiphon_test

import (
	"slices"
	"testing"

	"antiphon/api"
)

// torn: session 1 is in a Trans of the keys 0, 1 and 0; key 0 and then key 1
// were put by session 0 behind the answer for place 0. The servers are 0 and
// 1, the sessions stand at 2 and 3; answers for all places are under way.
func torn(t *testing.T) *bench {
	t.Helper()
	b := newBench(t, config(1, 2, 4), 0, 0)
	b.ok(b.Put(0, 0, 10), b.Deliver(0), b.Deliver(0))
	b.ok(b.Trans(1, 0, 1, 0))
	b.under([]byte{3, 3, 0, 0, 1, 0, 0}, []byte{3, 3, 1, 0, 1, 1, 1}, []byte{3, 3, 0, 0, 1, 2, 0})
	b.ok(b.Deliver(0))
	b.ok(b.Put(0, 0, 11), b.Deliver(3), b.Deliver(3), b.Put(0, 1, 12), b.Deliver(3), b.Deliver(3))
	b.ok(b.Deliver(0), b.Deliver(0))
	b.under(
		[]byte{4, 0, 3, 1, 1, 0, 0, 1, 0, 20, 0, 0},
		[]byte{4, 1, 3, 3, 1, 1, 1, 3, 1, 24, 1, 0, 2, 0, 0},
		[]byte{4, 0, 3, 2, 1, 2, 0, 2, 0, 22, 1, 0, 1, 0, 0})
	return b
}

// fetching: all answers have come, and FETCH is under way.
func fetching(t *testing.T) *bench {
	t.Helper()
	b := torn(t)
	b.ok(b.Deliver(2), b.Deliver(0), b.Deliver(0))
	b.under([]byte{5, 3, 0, 3, 1, 0, 0, 2, 0})
	return b
}

func TestTrans(t *testing.T) {
	b := fetching(t)
	b.did(1)
	b.knows(1)
	b.ok(b.Deliver(0))
	b.under([]byte{6, 0, 3, 3, 1, 0, 0, 2, 0, 22, 1, 0, 1, 0, 0})
	b.ok(b.Deliver(0))
	b.under()
	b.did(1, results(api.DidTrans, 4, 18, []api.Dep{dep(0, 2, 0), dep(1, 3, 1), dep(0, 2, 0)}, 11, 12, 11))
	b.knows(1, dep(0, 2, 0), dep(1, 3, 1))
}

// TestTransOfPlaces: of one, and of as many as can be, some of nothing.
func TestTransOfPlaces(t *testing.T) {
	b := newBench(t, config(1, 1, 6), 0)
	b.ok(b.Put(0, 5, -4), b.Deliver(0), b.Deliver(0))
	b.ok(b.Trans(0, 5), b.Deliver(0), b.Deliver(0))
	b.ok(b.Trans(0, 4, 5, 3, 5, 0, 4))
	for range 12 {
		b.ok(b.Deliver(0))
	}
	b.under()
	none := func(key int) api.Dep { return dep(key, 0, 0) }
	b.did(0,
		result(api.DidPut, 1, 3, dep(5, 1, 0), -4),
		result(api.DidTrans, 4, 6, dep(5, 1, 0), -4),
		results(api.DidTrans, 7, 19, []api.Dep{none(4), dep(5, 1, 0), none(3), dep(5, 1, 0), none(0), none(4)}, 0, -4, 0, -4, 0, 0))
	b.knows(0, dep(5, 1, 0))
}

// TestRetryOfTrans: what was not answered, in either round.
func TestRetryOfTrans(t *testing.T) {
	b := torn(t)
	for range 3 {
		b.ok(b.Drop(0))
	}
	b.ok(b.Retry(3))
	b.under([]byte{3, 3, 0, 0, 1, 0, 0}, []byte{3, 3, 1, 0, 1, 1, 1}, []byte{3, 3, 0, 0, 1, 2, 0})
	b.ok(b.Deliver(1), b.Deliver(2), b.Drop(0), b.Drop(0)) // place 1 alone is answered
	b.ok(b.Retry(3))
	b.under([]byte{3, 3, 0, 3, 1, 0, 0}, []byte{3, 3, 0, 3, 1, 2, 0})

	b = fetching(t)
	b.ok(b.Drop(0), b.Retry(3))
	b.under([]byte{5, 3, 0, 3, 1, 0, 0, 2, 0})
	b.ok(b.Retry(3), b.Deliver(0), b.Deliver(0), b.Deliver(0), b.Retry(3))
	b.under([]byte{6, 0, 3, 3, 1, 0, 0, 2, 0, 22, 1, 0, 1, 0, 0})
	b.ok(b.Deliver(0)) // it came already
	b.did(1, results(api.DidTrans, 4, 22, []api.Dep{dep(0, 2, 0), dep(1, 3, 1), dep(0, 2, 0)}, 11, 12, 11))
}

// TestAgainInTrans: an answer that came already is passed over, whatever it
// would say by now.
func TestAgainInTrans(t *testing.T) {
	b := torn(t)
	b.ok(b.Again(0), b.Again(0), b.Again(1), b.Again(1))
	b.did(1)
	b.ok(b.Retry(3), b.Drop(3), b.Deliver(2), b.Again(0), b.Again(1))
	b.under(
		[]byte{4, 0, 3, 1, 1, 0, 0, 1, 0, 20, 0, 0},
		[]byte{4, 1, 3, 3, 1, 1, 1, 3, 1, 24, 1, 0, 2, 0, 0},
		[]byte{5, 3, 0, 3, 1, 0, 0, 2, 0})
}

// TestTransInItsCentre: it asks the servers of its own centre, by its keys.
func TestTransInItsCentre(t *testing.T) {
	b := newBench(t, config(3, 3, 6), 1)
	b.ok(b.Trans(0, 5, 4, 3, 2, 1, 0))
	var want [][]byte
	for index := range byte(6) {
		key := 5 - index
		want = append(want, []byte{3, 9, 3 + key%3, 0, 1, index, key})
	}
	b.under(want...)
}

// TestKeysHandedIn stay as they were, also what stands behind them, and are
// not kept.
func TestKeysHandedIn(t *testing.T) {
	b := newBench(t, config(1, 1, 4), 0)
	keys := []int{2, 0, 3, 1, 3}
	b.ok(b.Trans(0, keys[1:3]...))
	if !slices.Equal(keys, []int{2, 0, 3, 1, 3}) {
		t.Errorf("P2: the keys are %v", keys)
	}
	keys[1], keys[2] = 1, 1
	b.ok(b.Drop(0), b.Drop(0), b.Retry(1))
	b.under([]byte{3, 1, 0, 0, 1, 0, 0}, []byte{3, 1, 0, 0, 1, 1, 3})
	b.ok(b.Deliver(0), b.Deliver(0), b.Deliver(0), b.Deliver(0))
	want := results(api.DidTrans, 1, 8, []api.Dep{dep(0, 0, 0), dep(3, 0, 0)}, 0, 0)
	b.did(0, want)
	keys[1], keys[2] = 2, 2
	b.did(0, want)
	if e := b.Trans(0, keys[:0]...); e != api.ErrArg || !slices.Equal(keys, []int{2, 2, 2, 1, 3}) {
		t.Errorf("P2: answered %d, the keys are %v", e, keys)
	}
}
