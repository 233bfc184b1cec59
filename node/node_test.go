package node_test

import (
	"sync/atomic"
	"testing"

	"antiphon/api"
	"antiphon/node"
)

func TestClock(t *testing.T) {
	var sent api.Message
	n := node.New(4, new(atomic.Int64), func(m api.Message) { sent = m })
	for _, c := range []struct {
		do   func()
		want int
	}{
		{func() {}, 0},
		{func() { n.Tick() }, 1},
		{func() { n.Hear(api.Message{Clock: 9}) }, 9},
		{func() { n.Hear(api.Message{Clock: 9}) }, 9},
		{func() { n.Hear(api.Message{Clock: 3}) }, 9},
		{func() { n.Tick() }, 10},
	} {
		c.do()
		n.Send(api.Message{Kind: api.Get, To: 2, From: 77, Clock: 77})
		if sent.Kind != api.Get || sent.To != 2 || sent.From != 4 || sent.Clock != c.want {
			t.Errorf("sent %+v, want it from 4, with the clock %d", sent, c.want)
		}
	}
	if got := n.Tick(); got != 11 {
		t.Errorf("Tick() = %d, want 11", got)
	}
}

func TestNow(t *testing.T) {
	steps := new(atomic.Int64)
	n, other := node.New(0, steps, nil), node.New(5, steps, nil)
	for want := range 3 {
		if n.Now() != want || other.Now() != want || n.Address() != 0 || other.Address() != 5 {
			t.Errorf("now %d and %d, want %d", n.Now(), other.Now(), want)
		}
		steps.Add(1)
	}
}
