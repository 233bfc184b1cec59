package server_test

import (
	"fmt"
	"slices"
	"sync/atomic"
	"testing"

	"antiphon/api"
	"antiphon/plan"
	"antiphon/server"
	"antiphon/wire"
)

// bench has one server, and what it sent since it was last asked.
type bench struct {
	t      *testing.T
	server *server.Server
	number int
	steps  *atomic.Int64
	sent   []string
}

// newBench: with three centres and two shards the servers are 0 1, 2 3, 4 5,
// and the sessions stand from 6 on.
func newBench(t *testing.T, centres, shards, number int) *bench {
	b := &bench{t: t, number: number, steps: new(atomic.Int64)}
	p := plan.Plan{Config: api.Config{Centres: centres, Shards: shards, Keys: api.MaxKeys}}
	b.server = server.New(p, number, b.steps, func(m api.Message) { b.sent = append(b.sent, text(t, m)) })
	return b
}

// text of a message as it is on the wire.
func text(t *testing.T, m api.Message) string {
	t.Helper()
	bytes, e := wire.Encode(m)
	if e != api.OK {
		t.Fatalf("no message: %+v", m)
	}
	m, _ = wire.Decode(bytes)
	return fmt.Sprintf("%+v", m)
}

// receives m in a step of its own, and sends just what is wanted, in order.
func (b *bench) receives(m api.Message, want ...api.Message) {
	b.t.Helper()
	b.steps.Add(1)
	m.To = b.number
	b.server.Receive(m)
	b.sends(want)
}

// retries in a step of its own.
func (b *bench) retries(want ...api.Message) {
	b.t.Helper()
	b.steps.Add(1)
	b.server.Retry()
	b.sends(want)
}

// sweeps in a step of its own; nothing is sent for that.
func (b *bench) sweeps(horizon int) {
	b.t.Helper()
	b.steps.Add(1)
	b.server.Sweep(horizon)
	b.sends(nil)
}

func (b *bench) sends(want []api.Message) {
	b.t.Helper()
	var texts []string
	for _, m := range want {
		m.From = b.number
		texts = append(texts, text(b.t, m))
	}
	if !slices.Equal(b.sent, texts) {
		b.t.Fatalf("P6: step %d: sent\n%q, want\n%q", b.steps.Load(), b.sent, texts)
	}
	b.sent = nil
}

// has just these versions of a key.
func (b *bench) has(key int, want ...api.Stored) {
	b.t.Helper()
	got := b.server.Stored(key)
	if fmt.Sprintf("%+v", got) != fmt.Sprintf("%+v", want) {
		b.t.Errorf("P7: step %d: key %d:\n%+v, want\n%+v", b.steps.Load(), key, got, want)
	}
}

func version(clock, server int) api.Version { return api.Version{Clock: clock, Server: server} }

func dep(key, clock, server int) api.Dep { return api.Dep{Key: key, Version: version(clock, server)} }

func put(from, op, key, value int, past ...api.Dep) api.Message {
	return api.Message{Kind: api.Put, From: from, Op: op, Key: key, Value: value, Past: past}
}

// about is a message that says no more than a key and a version. To and From
// are who it is that the bench's server has to do with.
func about(kind, other, clock int, d api.Dep) api.Message {
	return api.Message{Kind: kind, From: other, To: other, Clock: clock, Key: d.Key, Version: d.Version}
}

// aboutFor says for which pending one it is, too.
func aboutFor(kind, other, clock int, d, pends api.Dep) api.Message {
	m := about(kind, other, clock, d)
	m.For = pends
	return m
}

// copied is a COPY.
func copied(other, clock int, d api.Dep, value int, past ...api.Dep) api.Message {
	m := about(api.Copy, other, clock, d)
	m.Value, m.Past = value, past
	return m
}

func putted(to, clock, op int, d api.Dep) api.Message {
	m := about(api.Putted, to, clock, d)
	m.Op = op
	return m
}

// got answers a GET or a FETCH.
func got(kind, to, clock, op, index int, d api.Dep, value int, past ...api.Dep) api.Message {
	m := copied(to, clock, d, value, past...)
	m.Kind, m.Op, m.Index = kind, op, index
	return m
}
