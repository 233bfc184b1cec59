package antiphon_test

import (
	"testing"

	"antiphon/api"
)

// put all of a session's, one behind the other: each takes three steps, and
// the second one is that in which it is visible.
func (b *bench) putAll(session, key int, values ...int) {
	b.t.Helper()
	for _, value := range values {
		n := b.Bag()
		b.ok(b.Put(session, key, value), b.Deliver(n), b.Deliver(b.Bag()-1))
	}
}

// TestHorizon: the least step in which a Trans began that is not done, in any
// session; Put and Get hold nothing back.
func TestHorizon(t *testing.T) {
	b := newBench(t, config(1, 1, 2), 0, 0, 0, 0)
	b.putAll(0, 0, 10, 20) // visible, and so everywhere, since 2 and 5
	b.ok(b.Trans(1, 0))    // 7
	b.putAll(0, 0, 30)     // 9
	b.ok(b.Trans(2, 1))    // 11
	b.ok(b.Get(3, 0))
	past := []api.Dep{dep(0, 2, 0)}
	b.ok(b.Sweep(0))
	b.has(0, 0,
		api.Stored{Version: version(2, 0), Value: 20, Visible: 5, Covered: 9, Everywhere: 5, Settled: true},
		api.Stored{Version: version(3, 0), Value: 30, Past: past, Visible: 9, Everywhere: 9})
	b.ok(b.Deliver(0), b.Deliver(2)) // the first Trans is done
	b.did(1, result(api.DidTrans, 7, 15, dep(0, 3, 0), 30))
	b.knows(1, dep(0, 3, 0))
	b.ok(b.Sweep(0))
	b.has(0, 0, api.Stored{Version: version(3, 0), Value: 30, Visible: 9, Everywhere: 9, Settled: true})

	b.putAll(0, 0, 40) // 18, behind the second Trans
	open := api.Stored{Version: version(4, 0), Value: 40, Past: []api.Dep{dep(0, 3, 0)}, Visible: 18, Everywhere: 18}
	b.ok(b.Sweep(0))
	b.has(0, 0, api.Stored{Version: version(3, 0), Value: 30, Visible: 9, Covered: 18, Everywhere: 9, Settled: true}, open)
	b.ok(b.Deliver(0), b.Deliver(1), b.Put(1, 1, 5)) // the second Trans is done; Get and Put are not
	b.ok(b.Sweep(0))
	open.Settled, open.Past = true, nil
	b.has(0, 0, open)
	b.ok(b.Deliver(0), b.Deliver(1)) // what is settled is not learned
	b.did(3, result(api.DidGet, 12, 26, dep(0, 4, 0), 40))
	b.knows(3)
}

// TestHorizonOfOtherCentres: a Trans holds back the servers of all centres.
func TestHorizonOfOtherCentres(t *testing.T) {
	b := newBench(t, config(3, 1, 1), 0, 2)
	b.ok(b.Trans(1, 0))
	b.putAll(0, 0, 7)
	for b.Bag() > 1 {
		b.ok(b.Deliver(1))
	}
	for server := range 3 {
		b.ok(b.Sweep(server))
		if w := b.stored(server, 0)[0]; w.Settled || w.Everywhere == 0 {
			t.Errorf("P6: Stored(%d, 0) has %+v", server, w)
		}
	}
	b.ok(b.Deliver(0), b.Deliver(0))
	for server := range 3 {
		b.ok(b.Sweep(server))
		if w := b.stored(server, 0)[0]; !w.Settled {
			t.Errorf("P6: Stored(%d, 0) has %+v", server, w)
		}
	}
}

// TestSweepWithoutSessions: there is nothing to sweep, and it is a step.
func TestSweepWithoutSessions(t *testing.T) {
	b := newBench(t, config(2, 2, 2))
	for server := range 4 {
		b.ok(b.Sweep(server))
	}
	if b.Now() != 4 || b.Bag() != 0 {
		t.Errorf("P6: now %d, bag %d", b.Now(), b.Bag())
	}
}

// TestSweptMessages: what is under way about a version that was swept away.
// The servers are 0 and 1, the sessions stand at 2 and 3.
func TestSweptMessages(t *testing.T) {
	b := newBench(t, config(2, 1, 2), 0, 1)
	b.putAll(0, 0, 7)
	b.ok(b.Again(0), b.Retry(1)) // COPY stays; KEPT, SEEN, SEEN
	b.ok(b.Again(2), b.Deliver(4))
	copyOne, kept, seen := []byte{7, 0, 1, 1, 0, 1, 0, 14, 0}, []byte{8, 1, 0, 1, 0, 1, 0}, []byte{11, 1, 0, 1, 0, 1, 0}
	b.under(copyOne, kept, seen, seen)
	b.ok(b.Retry(0)) // EVERYWHERE has come; COPY again, for KEPT has not
	b.ok(b.Drop(4), b.Drop(3))
	b.ok(b.Get(1, 0), b.Deliver(3), b.Deliver(3)) // session 1 knows the first one
	b.knows(1, dep(0, 1, 0))
	b.putAll(0, 0, 8) // COPY of the second one
	b.ok(b.Again(3))
	b.ok(b.Sweep(0), b.Sweep(1))
	for server := range 2 {
		if all := b.stored(server, 0); len(all) != 1 || all[0].Value != 8 {
			t.Fatalf("P6: Stored(%d, 0) = %+v", server, all)
		}
	}
	for b.Bag() > 3 {
		b.ok(b.Drop(3))
	}

	b.ok(b.Deliver(0)) // COPY: KEPT, and no more
	b.under(kept, seen, []byte{8, 1, 0, 2, 0, 1, 0})
	b.ok(b.Deliver(0), b.Deliver(1)) // KEPT is passed over
	b.under(seen)
	b.ok(b.Deliver(0)) // SEEN: EVERYWHERE is sent back
	b.under([]byte{12, 0, 1, 2, 0, 1, 0})
	b.ok(b.Deliver(0)) // and passed over
	b.under()
	for server := range 2 {
		if all := b.stored(server, 0); len(all) != 1 || all[0].Value != 8 {
			t.Fatalf("P6: Stored(%d, 0) = %+v", server, all)
		}
	}
	b.putAll(1, 1, 9) // its past has the first one: that was seen
	b.ok(b.Deliver(0))
	if all := b.stored(0, 1); len(all) != 1 || all[0].Visible != b.Now() || len(all[0].Past) != 1 {
		t.Errorf("P6: Stored(0, 1) = %+v", all)
	}
}
