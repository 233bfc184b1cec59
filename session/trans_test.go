package session_test

import (
	"slices"
	"testing"

	"antiphon/api"
)

func (b *bench) transes(keys []int, want ...api.Message) {
	b.t.Helper()
	b.step(func() { b.session.Trans(keys...) }, want...)
}

// get is what a session sends for a place.
func get(clock, op, index, key int) api.Message {
	return api.Message{Kind: api.Get, To: 2 + key%2, Clock: clock, Op: op, Index: index, Key: key}
}

func fetch(clock, op, index int, d api.Dep) api.Message {
	return api.Message{Kind: api.Fetch, To: 2 + d.Key%2, Clock: clock, Op: op, Index: index, Key: d.Key, Version: d.Version}
}

// gotAt answers for a place.
func gotAt(index, clock, op int, d api.Dep, value int, past ...api.Dep) api.Message {
	m := got(clock, op, d, value, past...)
	m.Index = index
	return m
}

func fetchedAt(index, clock, op int, d api.Dep, value int, past ...api.Dep) api.Message {
	m := gotAt(index, clock, op, d, value, past...)
	m.Kind = api.Fetched
	return m
}

func settled(m api.Message) api.Message {
	m.Settled = true
	return m
}

func trans(begun, done int, deps []api.Dep, values ...int) api.Result {
	r := api.Result{Kind: api.DidTrans, Begun: begun, Done: done, Values: values}
	for _, d := range deps {
		r.Keys = append(r.Keys, d.Key)
		r.Versions = append(r.Versions, d.Version)
	}
	return r
}

// TestTrans: answers come in any order, and nothing more is wanted.
func TestTrans(t *testing.T) {
	b := newBench(t)
	b.transes([]int{3, 0, 5}, get(0, 1, 0, 3), get(0, 1, 1, 0), get(0, 1, 2, 5))
	b.isBusy(true, 0)
	b.receives(gotAt(2, 7, 1, dep(5, 7, 1), 15, dep(3, 2, 1), dep(4, 6, 0)))
	b.receives(gotAt(1, 4, 1, dep(0, 0, 0), 0)) // version none
	b.isBusy(true, 0)
	b.knows()
	b.receives(gotAt(0, 3, 1, dep(3, 2, 1), 13, dep(1, 1, 1)))
	b.isBusy(false, 1)
	b.knows(dep(1, 1, 1), dep(3, 2, 1), dep(4, 6, 0), dep(5, 7, 1))
	b.did(trans(1, 4, []api.Dep{dep(3, 2, 1), dep(0, 0, 0), dep(5, 7, 1)}, 13, 0, 15))
	b.transes([]int{2}, get(7, 2, 0, 2))
	b.receives(gotAt(0, 7, 2, dep(2, 5, 4), -1))
	b.did(
		trans(1, 4, []api.Dep{dep(3, 2, 1), dep(0, 0, 0), dep(5, 7, 1)}, 13, 0, 15),
		trans(5, 6, []api.Dep{dep(2, 5, 4)}, -1))
}

// TestFetch: what came for a place is less than what is in the pasts of
// others, or than what came for the same key at another place.
func TestFetch(t *testing.T) {
	b := newBench(t)
	b.transes([]int{0, 1, 2, 0, 3}, get(0, 1, 0, 0), get(0, 1, 1, 1), get(0, 1, 2, 2), get(0, 1, 3, 0), get(0, 1, 4, 3))
	b.receives(gotAt(1, 9, 1, dep(1, 9, 3), 11, dep(2, 8, 2), dep(3, 3, 5), dep(4, 2, 2)))
	b.receives(gotAt(3, 9, 1, dep(0, 6, 4), 10, dep(2, 7, 2), dep(5, 5, 5)))
	b.receives(gotAt(4, 9, 1, dep(3, 4, 1), 13))
	b.receives(gotAt(2, 9, 1, dep(2, 0, 0), 0))
	b.receives(gotAt(0, 9, 1, dep(0, 6, 2), 9, dep(1, 5, 3), dep(4, 3, 4)), fetch(9, 1, 0, dep(0, 6, 4)), fetch(9, 1, 2, dep(2, 8, 2)))
	b.isBusy(true, 0)
	b.knows()
	b.receives(fetchedAt(2, 10, 1, dep(2, 8, 2), 12, dep(1, 1, 1)))
	b.isBusy(true, 0)
	b.receives(fetchedAt(0, 10, 1, dep(0, 6, 4), 10, dep(2, 7, 2), dep(5, 5, 5)))
	b.isBusy(false, 1)
	// (3, 4) of key 4 was in the past of what came first at place 0 alone: it is not learned
	b.knows(dep(0, 6, 4), dep(1, 9, 3), dep(2, 8, 2), dep(3, 4, 1), dep(4, 2, 2), dep(5, 5, 5))
	b.did(trans(1, 8, []api.Dep{dep(0, 6, 4), dep(1, 9, 3), dep(2, 8, 2), dep(0, 6, 4), dep(3, 4, 1)}, 10, 11, 12, 10, 13))
}

// TestFetchOnce: what the past of a fetched one says is asked for no more.
func TestFetchOnce(t *testing.T) {
	b := newBench(t)
	b.transes([]int{0, 1}, get(0, 1, 0, 0), get(0, 1, 1, 1))
	b.receives(gotAt(0, 5, 1, dep(0, 1, 2), 1))
	b.receives(gotAt(1, 5, 1, dep(1, 5, 3), 2, dep(0, 4, 2)), fetch(5, 1, 0, dep(0, 4, 2)))
	b.receives(fetchedAt(0, 5, 1, dep(0, 4, 2), 3, dep(1, 9, 9)))
	b.isBusy(false, 1)
	b.did(trans(1, 4, []api.Dep{dep(0, 4, 2), dep(1, 5, 3)}, 3, 2))
}

// TestSettledInTrans: its past wants nothing and is not learned, nor is it;
// but it came, and so is wanted where less came.
func TestSettledInTrans(t *testing.T) {
	b := newBench(t)
	b.transes([]int{1, 0, 1}, get(0, 1, 0, 1), get(0, 1, 1, 0), get(0, 1, 2, 1))
	b.receives(settled(gotAt(0, 5, 1, dep(1, 5, 1), 5, dep(0, 4, 2), dep(2, 1, 2))))
	b.receives(gotAt(1, 5, 1, dep(0, 3, 0), 3))
	b.receives(gotAt(2, 5, 1, dep(1, 4, 1), 4), fetch(5, 1, 2, dep(1, 5, 1)))
	b.receives(settled(fetchedAt(2, 5, 1, dep(1, 5, 1), 5)))
	b.knows(dep(0, 3, 0))
	b.did(trans(1, 5, []api.Dep{dep(1, 5, 1), dep(0, 3, 0), dep(1, 5, 1)}, 5, 3, 5))
}

// TestGone: by the document it never comes to this, but it is told.
func TestGone(t *testing.T) {
	b := newBench(t)
	b.transes([]int{0, 1}, get(0, 1, 0, 0), get(0, 1, 1, 1))
	b.receives(gotAt(0, 5, 1, dep(0, 1, 2), 1, dep(4, 1, 0)))
	b.receives(gotAt(1, 5, 1, dep(1, 5, 3), 2, dep(0, 4, 2)), fetch(5, 1, 0, dep(0, 4, 2)))
	b.receives(fetchedAt(0, 5, 1, dep(0, 0, 0), 0))
	b.isBusy(false, 1)
	b.knows(dep(0, 4, 2), dep(1, 5, 3))
	want := trans(1, 4, []api.Dep{dep(0, 0, 0), dep(1, 5, 3)}, 0, 2)
	want.Gone = true
	b.did(want)
}

// TestOtherAnswersInTrans: those that came already, that are of the other
// round, and of no place.
func TestOtherAnswersInTrans(t *testing.T) {
	b := newBench(t)
	b.transes([]int{0, 1}, get(0, 1, 0, 0), get(0, 1, 1, 1))
	b.receives(gotAt(0, 5, 1, dep(0, 1, 2), 1))
	b.receives(gotAt(0, 5, 1, dep(0, 4, 2), 4))
	b.receives(gotAt(1, 5, 0, dep(1, 5, 3), 2))
	b.receives(gotAt(1, 5, 2, dep(1, 5, 3), 2))
	b.receives(gotAt(2, 5, 1, dep(1, 5, 3), 2))
	b.receives(fetchedAt(1, 5, 1, dep(1, 5, 3), 2))
	b.receives(putted(5, 1, dep(0, 5, 2)))
	b.isBusy(true, 0)
	b.receives(gotAt(1, 6, 1, dep(1, 5, 3), 2, dep(0, 3, 2)), fetch(6, 1, 0, dep(0, 3, 2)))
	b.receives(gotAt(0, 6, 1, dep(0, 4, 2), 4))
	b.receives(gotAt(1, 6, 1, dep(1, 6, 3), 6))
	b.receives(fetchedAt(1, 6, 1, dep(1, 6, 3), 6))
	b.isBusy(true, 0)
	b.receives(fetchedAt(0, 6, 1, dep(0, 3, 2), 3))
	b.receives(fetchedAt(0, 6, 1, dep(0, 3, 2), 3))
	b.isBusy(false, 1)
	b.did(trans(1, 13, []api.Dep{dep(0, 3, 2), dep(1, 5, 3)}, 3, 2))
	b.gets(4, get(6, 2, 0, 4))
	b.receives(fetchedAt(0, 6, 1, dep(0, 3, 2), 3))
	b.receives(fetchedAt(0, 6, 2, dep(4, 3, 2), 3))
	b.isBusy(true, 1)
}

// TestRetryOfTrans: what was not answered, in either round, by places.
func TestRetryOfTrans(t *testing.T) {
	b := newBench(t)
	all := []api.Message{get(0, 1, 0, 5), get(0, 1, 1, 1), get(0, 1, 2, 1), get(0, 1, 3, 2)}
	b.transes([]int{5, 1, 1, 2}, all...)
	b.retries(all...)
	b.receives(gotAt(1, 4, 1, dep(1, 1, 3), 1))
	b.retries(get(4, 1, 0, 5), get(4, 1, 2, 1), get(4, 1, 3, 2))
	b.receives(gotAt(3, 4, 1, dep(2, 2, 2), 2))
	b.receives(gotAt(0, 7, 1, dep(5, 7, 1), 5, dep(1, 6, 1), dep(2, 2, 2)))
	b.retries(get(7, 1, 2, 1))
	b.receives(gotAt(2, 4, 1, dep(1, 3, 1), 3), fetch(7, 1, 1, dep(1, 6, 1)), fetch(7, 1, 2, dep(1, 6, 1)))
	b.retries(fetch(7, 1, 1, dep(1, 6, 1)), fetch(7, 1, 2, dep(1, 6, 1)))
	b.receives(fetchedAt(1, 8, 1, dep(1, 6, 1), 6))
	b.retries(fetch(8, 1, 2, dep(1, 6, 1)))
	b.receives(fetchedAt(2, 8, 1, dep(1, 6, 1), 6))
	b.retries()
	b.did(trans(1, 12, []api.Dep{dep(5, 7, 1), dep(1, 6, 1), dep(1, 6, 1), dep(2, 2, 2)}, 5, 6, 6, 2))
}

// TestHorizon: a Trans that is not done yet holds it back; Put and Get do not.
func TestHorizon(t *testing.T) {
	b := newBench(t)
	is := func(want int) {
		t.Helper()
		if got := b.session.Horizon(); got != want {
			t.Errorf("P6: step %d: horizon %d, want %d", b.steps.Load(), got, want)
		}
	}
	is(0)
	b.gets(0, get(0, 1, 0, 0))
	b.retries(get(0, 1, 0, 0))
	is(2)
	b.receives(gotAt(0, 3, 1, dep(0, 0, 0), 0))
	is(3)
	b.transes([]int{0, 1}, get(3, 2, 0, 0), get(3, 2, 1, 1))
	is(4)
	b.receives(gotAt(0, 3, 2, dep(0, 1, 2), 1))
	is(4)
	b.receives(gotAt(1, 3, 2, dep(1, 3, 3), 2, dep(0, 2, 2)), fetch(3, 2, 0, dep(0, 2, 2)))
	is(4)
	b.receives(fetchedAt(0, 3, 2, dep(0, 2, 2), 2))
	is(7)
	b.retries()
	is(8)
}

// TestListsOfTransAreNew: what is handed in is left alone, and not kept.
func TestListsOfTransAreNew(t *testing.T) {
	b := newBench(t)
	keys := []int{4, 1, 9}
	b.transes(keys[:2], get(0, 1, 0, 4), get(0, 1, 1, 1))
	if !slices.Equal(keys, []int{4, 1, 9}) {
		t.Errorf("P2: the keys are %v", keys)
	}
	keys[0], keys[1] = 5, 5
	b.retries(get(0, 1, 0, 4), get(0, 1, 1, 1))
	b.receives(gotAt(0, 0, 1, dep(4, 1, 2), 1))
	b.receives(gotAt(1, 0, 1, dep(1, 1, 3), 2))
	told := b.session.Results()
	told[0].Keys[1], told[0].Versions[1], told[0].Values[1] = 9, version(9, 9), 9
	b.did(trans(1, 4, []api.Dep{dep(4, 1, 2), dep(1, 1, 3)}, 1, 2))
}
