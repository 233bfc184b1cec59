package session_test

import (
	"fmt"
	"slices"
	"sync/atomic"
	"testing"

	"antiphon/api"
	"antiphon/plan"
	"antiphon/session"
	"antiphon/wire"
)

// bench has one session, and what it sent since it was last asked: session 1,
// at the address 7, in the centre of the servers 2 and 3.
type bench struct {
	t       *testing.T
	session *session.Session
	steps   *atomic.Int64
	sent    []api.Message
}

func newBench(t *testing.T) *bench {
	b := &bench{t: t, steps: new(atomic.Int64)}
	p := plan.Plan{Config: api.Config{Centres: 3, Shards: 2, Keys: 6}}
	b.session = session.New(p, 1, 1, b.steps, func(m api.Message) { b.sent = append(b.sent, m) })
	return b
}

// step does something, and the session sends just what is wanted.
func (b *bench) step(do func(), want ...api.Message) {
	b.t.Helper()
	b.steps.Add(1)
	do()
	if len(b.sent) != len(want) {
		b.t.Fatalf("P6: step %d: sent %+v, want %+v", b.steps.Load(), b.sent, want)
	}
	for i, m := range want {
		m.From = 7
		wanted, e := wire.Encode(m)
		got, f := wire.Encode(b.sent[i])
		if e != api.OK || f != api.OK || !slices.Equal(got, wanted) {
			b.t.Fatalf("P6: step %d: sent %+v, want %+v", b.steps.Load(), b.sent[i], m)
		}
	}
	b.sent = nil
}

func (b *bench) puts(key, value int, want ...api.Message) {
	b.t.Helper()
	b.step(func() { b.session.Put(key, value) }, want...)
}

func (b *bench) gets(key int, want ...api.Message) {
	b.t.Helper()
	b.step(func() { b.session.Get(key) }, want...)
}

func (b *bench) retries(want ...api.Message) {
	b.t.Helper()
	b.step(b.session.Retry, want...)
}

func (b *bench) receives(m api.Message, want ...api.Message) {
	b.t.Helper()
	b.step(func() { b.session.Receive(m) }, want...)
}

func (b *bench) knows(want ...api.Dep) {
	b.t.Helper()
	if got := b.session.Context(); !slices.Equal(got, want) {
		b.t.Errorf("P7: step %d: context %v, want %v", b.steps.Load(), got, want)
	}
}

// isBusy after so many operations that are done.
func (b *bench) isBusy(want bool, done int) {
	b.t.Helper()
	if got := b.session.IsBusy(); got != want || len(b.session.Results()) != done {
		b.t.Errorf("P5: step %d: busy %v, want %v; results %+v, want %d", b.steps.Load(), got, want, b.session.Results(), done)
	}
}

func (b *bench) did(want ...api.Result) {
	b.t.Helper()
	if got := b.session.Results(); fmt.Sprintf("%+v", got) != fmt.Sprintf("%+v", want) {
		b.t.Errorf("P7: step %d: results\n%+v, want\n%+v", b.steps.Load(), got, want)
	}
}

func version(clock, server int) api.Version { return api.Version{Clock: clock, Server: server} }

func dep(key, clock, server int) api.Dep { return api.Dep{Key: key, Version: version(clock, server)} }

func result(kind, begun, done int, d api.Dep, value int) api.Result {
	return api.Result{Kind: kind, Begun: begun, Done: done, Keys: []int{d.Key}, Versions: []api.Version{d.Version}, Values: []int{value}}
}

func putted(clock, op int, d api.Dep) api.Message {
	return api.Message{Kind: api.Putted, From: 2 + d.Key%2, To: 7, Clock: clock, Op: op, Key: d.Key, Version: d.Version}
}

func got(clock, op int, d api.Dep, value int, past ...api.Dep) api.Message {
	return api.Message{Kind: api.Got, From: 2 + d.Key%2, To: 7, Clock: clock, Op: op, Key: d.Key, Version: d.Version, Value: value, Past: past}
}

func TestPut(t *testing.T) {
	b := newBench(t)
	b.isBusy(false, 0)
	b.puts(5, -7, api.Message{Kind: api.Put, To: 3, Op: 1, Key: 5, Value: -7})
	b.isBusy(true, 0)
	b.knows()
	b.receives(putted(4, 1, dep(5, 4, 3)))
	b.isBusy(false, 1)
	b.knows(dep(5, 4, 3))
	b.puts(2, 9, api.Message{Kind: api.Put, To: 2, Clock: 4, Op: 2, Key: 2, Value: 9, Past: []api.Dep{dep(5, 4, 3)}})
	b.receives(putted(6, 2, dep(2, 6, 2)))
	b.knows(dep(2, 6, 2), dep(5, 4, 3))
	b.puts(5, 0, api.Message{Kind: api.Put, To: 3, Clock: 6, Op: 3, Key: 5, Past: []api.Dep{dep(2, 6, 2), dep(5, 4, 3)}})
	b.receives(putted(7, 3, dep(5, 7, 3)))
	b.knows(dep(2, 6, 2), dep(5, 7, 3))
	b.did(
		result(api.DidPut, 1, 2, dep(5, 4, 3), -7),
		result(api.DidPut, 3, 4, dep(2, 6, 2), 9),
		result(api.DidPut, 5, 6, dep(5, 7, 3), 0))
}

func TestGet(t *testing.T) {
	b := newBench(t)
	b.gets(4, api.Message{Kind: api.Get, To: 2, Op: 1, Key: 4})
	b.isBusy(true, 0)
	b.receives(got(3, 1, dep(4, 0, 0), 0)) // version none
	b.isBusy(false, 1)
	b.knows()
	b.gets(4, api.Message{Kind: api.Get, To: 2, Clock: 3, Op: 2, Key: 4})
	b.receives(got(3, 2, dep(4, 3, 0), 8, dep(0, 2, 4), dep(4, 1, 2), dep(5, 2, 1)))
	b.knows(dep(0, 2, 4), dep(4, 3, 0), dep(5, 2, 1))
	b.gets(3, api.Message{Kind: api.Get, To: 3, Clock: 3, Op: 3, Key: 3})
	b.receives(got(5, 3, dep(3, 5, 1), -2, dep(0, 2, 2), dep(1, 1, 1), dep(5, 4, 1)))
	b.knows(dep(0, 2, 4), dep(1, 1, 1), dep(3, 5, 1), dep(4, 3, 0), dep(5, 4, 1))
	b.did(
		result(api.DidGet, 1, 2, dep(4, 0, 0), 0),
		result(api.DidGet, 3, 4, dep(4, 3, 0), 8),
		result(api.DidGet, 5, 6, dep(3, 5, 1), -2))
}

// TestSettledIsNotLearned: nor is its past, if it had one.
func TestSettledIsNotLearned(t *testing.T) {
	b := newBench(t)
	b.gets(4, api.Message{Kind: api.Get, To: 2, Op: 1, Key: 4})
	m := got(3, 1, dep(4, 3, 0), 8, dep(0, 2, 4))
	m.Settled = true
	b.receives(m)
	b.knows()
	b.did(result(api.DidGet, 1, 2, dep(4, 3, 0), 8))
}

// TestOtherAnswers: of an earlier operation, twice, and of none.
func TestOtherAnswers(t *testing.T) {
	b := newBench(t)
	b.receives(got(2, 0, dep(4, 3, 0), 8))
	b.receives(got(2, 1, dep(4, 3, 0), 8))
	b.isBusy(false, 0)
	b.gets(4, api.Message{Kind: api.Get, To: 2, Clock: 2, Op: 1, Key: 4})
	b.receives(got(2, 2, dep(4, 3, 0), 8))
	b.isBusy(true, 0)
	b.receives(got(5, 1, dep(4, 5, 0), 8))
	b.receives(got(6, 1, dep(4, 6, 0), 9))
	b.knows(dep(4, 5, 0))
	b.puts(4, 1, api.Message{Kind: api.Put, To: 2, Clock: 6, Op: 2, Key: 4, Value: 1, Past: []api.Dep{dep(4, 5, 0)}})
	b.receives(got(9, 1, dep(4, 6, 0), 9))
	b.isBusy(true, 1)
	b.receives(putted(9, 2, dep(4, 10, 2)))
	b.receives(putted(9, 2, dep(4, 10, 2)))
	b.isBusy(false, 2)
	b.knows(dep(4, 10, 2))
}

// TestRetry: with the clock of then, which also what was passed over has raised.
func TestRetry(t *testing.T) {
	b := newBench(t)
	b.retries()
	put := api.Message{Kind: api.Put, To: 3, Op: 1, Key: 1, Value: 5}
	b.puts(1, 5, put)
	b.retries(put)
	b.receives(got(8, 0, dep(0, 8, 2), 0))
	put.Clock = 8
	b.retries(put)
	b.receives(putted(9, 1, dep(1, 9, 3)))
	b.retries()
	get := api.Message{Kind: api.Get, To: 2, Clock: 9, Op: 2, Key: 0}
	b.gets(0, get)
	b.retries(get)
	b.retries(get)
	b.receives(got(9, 2, dep(0, 8, 2), 3))
	b.retries()
	b.did(result(api.DidPut, 2, 6, dep(1, 9, 3), 5), result(api.DidGet, 8, 11, dep(0, 8, 2), 3))
}

// TestListsAreNew: what is told can be written into, and nothing changes.
func TestListsAreNew(t *testing.T) {
	b := newBench(t)
	b.gets(4, api.Message{Kind: api.Get, To: 2, Op: 1, Key: 4})
	handed := []api.Dep{dep(0, 2, 4)}
	b.receives(got(3, 1, dep(4, 3, 0), 8, handed...))
	handed[0] = dep(3, 3, 3)
	known := b.session.Context()
	known[0] = dep(5, 5, 5)
	b.knows(dep(0, 2, 4), dep(4, 3, 0))
	told := b.session.Results()
	told[0].Keys[0], told[0].Versions[0], told[0].Values[0] = 9, version(9, 9), 9
	told[0].Kind = 9
	b.did(result(api.DidGet, 1, 2, dep(4, 3, 0), 8))
}
