package server_test

import (
	"testing"

	"antiphon/api"
)

// putEverywhere: steps n+1 (it is visible) and n+2 (it is everywhere); with
// two centres and one shard, the other server is 1.
func (b *bench) putEverywhere(op, clock int, d api.Dep, value int, past ...api.Dep) {
	b.t.Helper()
	b.receives(put(2, op, d.Key, value, past...), copied(1, clock, d, value, past...), putted(2, clock, op, d))
	b.receives(about(api.Seen, 1, clock, d), about(api.Everywhere, 1, clock, d))
}

// TestSettle: what is everywhere since a step below the horizon is settled,
// and has no past from then on.
func TestSettle(t *testing.T) {
	b := newBench(t, 2, 1, 0)
	one, two := dep(0, 1, 0), dep(1, 2, 0)
	b.putEverywhere(1, 1, one, 5)
	b.putEverywhere(2, 2, two, 6, one)
	past := []api.Dep{one}
	open := api.Stored{Version: two.Version, Value: 6, Past: past, Visible: 3, Everywhere: 4}
	b.sweeps(2)
	b.has(0, api.Stored{Version: one.Version, Value: 5, Visible: 1, Everywhere: 2})
	b.sweeps(3)
	b.has(0, api.Stored{Version: one.Version, Value: 5, Visible: 1, Everywhere: 2, Settled: true})
	b.sweeps(4)
	b.has(1, open)
	get := question(api.Get, 3, 1, 0, dep(1, 0, 0))
	b.receives(get, got(api.Got, 3, 2, 1, 0, two, 6, past...))
	b.sweeps(5)
	b.has(1, api.Stored{Version: two.Version, Value: 6, Visible: 3, Everywhere: 4, Settled: true})

	answer := got(api.Got, 3, 2, 1, 0, two, 6)
	answer.Settled = true
	b.receives(get, answer)
	fetched := got(api.Fetched, 3, 2, 1, 4, two, 6)
	fetched.Settled = true
	b.receives(question(api.Fetch, 3, 1, 4, two), fetched)
	// KEPT has not come: a COPY that is sent again has no past either
	b.retries(copied(1, 2, one, 5), copied(1, 2, two, 6))
	b.sweeps(1) // what is settled stays so
	b.has(1, api.Stored{Version: two.Version, Value: 6, Visible: 3, Everywhere: 4, Settled: true})
}

// TestNotSettled: what is not known to be everywhere, and what is pending.
func TestNotSettled(t *testing.T) {
	b := newBench(t, 2, 1, 1)
	seen, pends, ahead := dep(0, 3, 0), dep(0, 5, 0), dep(1, 4, 0)
	b.receives(copied(0, 3, seen, 1), about(api.Kept, 0, 3, seen), about(api.Seen, 0, 3, seen))
	b.receives(copied(0, 5, pends, 2, ahead), about(api.Kept, 0, 5, pends))
	b.receives(put(2, 1, 0, 3), copied(0, 6, dep(0, 6, 1), 3), putted(2, 6, 1, dep(0, 6, 1)))
	b.sweeps(9)
	b.has(0,
		api.Stored{Version: seen.Version, Value: 1, Visible: 1, Covered: 3},
		api.Stored{Version: pends.Version, Value: 2, Past: []api.Dep{ahead}},
		api.Stored{Version: version(6, 1), Value: 3, Visible: 3})
	b.retries(about(api.Seen, 0, 6, seen), copied(0, 6, dep(0, 6, 1), 3))
	b.receives(copied(0, 6, ahead, 4),
		about(api.Kept, 0, 6, ahead), about(api.Seen, 0, 6, ahead), about(api.Seen, 0, 6, pends))
	b.has(0,
		api.Stored{Version: seen.Version, Value: 1, Visible: 1, Covered: 3},
		api.Stored{Version: pends.Version, Value: 2, Past: []api.Dep{ahead}, Visible: 6, Covered: 6},
		api.Stored{Version: version(6, 1), Value: 3, Visible: 3})
}

// TestSweepAway: what is settled and covered since a step below the horizon,
// and nothing else; the others stay in their order.
func TestSweepAway(t *testing.T) {
	b := newBench(t, 2, 1, 0)
	first, second, third := dep(0, 1, 0), dep(0, 3, 0), dep(0, 4, 0)
	other := dep(1, 2, 0)
	b.putEverywhere(1, 1, first, 5) // 1, 2
	b.putEverywhere(2, 2, other, 6) // 3, 4
	b.receives(put(2, 3, 0, 7), copied(1, 3, second, 7), putted(2, 3, 3, second))
	b.putEverywhere(4, 4, third, 8) // 6, 7
	b.sweeps(5)                     // the first one is covered since then
	late := api.Stored{Version: second.Version, Value: 7, Visible: 5, Covered: 6}
	b.has(0,
		api.Stored{Version: first.Version, Value: 5, Visible: 1, Covered: 5, Everywhere: 2, Settled: true},
		late,
		api.Stored{Version: third.Version, Value: 8, Visible: 6, Everywhere: 7})
	b.sweeps(6)
	b.has(0, late, api.Stored{Version: third.Version, Value: 8, Visible: 6, Everywhere: 7})
	b.sweeps(100)
	b.has(0, late, api.Stored{Version: third.Version, Value: 8, Visible: 6, Everywhere: 7, Settled: true})
	b.has(1, api.Stored{Version: other.Version, Value: 6, Visible: 3, Everywhere: 4, Settled: true})
	b.receives(about(api.Seen, 1, 4, second), about(api.Everywhere, 1, 4, second))
	b.sweeps(11) // it is everywhere since then
	late.Everywhere = 11
	b.has(0, late, api.Stored{Version: third.Version, Value: 8, Visible: 6, Everywhere: 7, Settled: true})
	b.sweeps(12) // settled and swept away at once
	b.has(0, api.Stored{Version: third.Version, Value: 8, Visible: 6, Everywhere: 7, Settled: true})
	latest := got(api.Got, 3, 4, 1, 0, third, 8)
	latest.Settled = true
	b.receives(question(api.Get, 3, 1, 0, dep(0, 0, 0)), latest)
	b.retries(copied(1, 4, other, 6), copied(1, 4, third, 8))
}

// TestAboutSwept: messages about what was put here and swept away.
func TestAboutSwept(t *testing.T) {
	b := newBench(t, 2, 2, 0) // its twin is 2; the centre's other server is 1
	one, two := dep(0, 1, 0), dep(0, 2, 0)
	b.receives(put(4, 1, 0, 5), copied(2, 1, one, 5), putted(4, 1, 1, one))
	b.receives(about(api.Seen, 2, 1, one), about(api.Everywhere, 2, 1, one))
	b.receives(put(5, 1, 0, 6), copied(2, 2, two, 6), putted(5, 2, 1, two))
	b.sweeps(4)
	left := api.Stored{Version: two.Version, Value: 6, Visible: 3}
	b.has(0, left)

	asks := dep(1, 9, 3)
	b.receives(about(api.Seen, 2, 2, one), about(api.Everywhere, 2, 2, one))
	b.receives(about(api.Kept, 2, 2, one))
	b.receives(about(api.Everywhere, 2, 2, one))
	b.receives(aboutFor(api.Need, 1, 2, one, asks), aboutFor(api.Met, 1, 2, one, asks))
	b.receives(aboutFor(api.Met, 1, 2, dep(1, 1, 1), one))
	b.receives(question(api.Fetch, 5, 2, 3, one), got(api.Fetched, 5, 2, 2, 3, dep(0, 0, 0), 0))
	b.receives(put(4, 1, 0, 5), putted(4, 2, 1, one)) // PUTTED again, with the same version
	b.retries(copied(2, 2, two, 6))
	b.has(0, left)
}

// TestCopyOfSwept: it had reached the server, and was visible.
func TestCopyOfSwept(t *testing.T) {
	b := newBench(t, 2, 1, 1)
	one, two, three := dep(0, 1, 0), dep(0, 2, 0), dep(1, 3, 0)
	for _, d := range []api.Dep{one, two} {
		b.receives(copied(0, 2, d, d.Version.Clock), about(api.Kept, 0, 2, d), about(api.Seen, 0, 2, d))
		b.receives(about(api.Everywhere, 0, 2, d))
	}
	b.sweeps(4)
	left := api.Stored{Version: two.Version, Value: 2, Visible: 3, Everywhere: 4}
	b.has(0, left)
	b.receives(copied(0, 2, one, 1), about(api.Kept, 0, 2, one))
	b.has(0, left)
	b.receives(copied(0, 3, three, 3, one), about(api.Kept, 0, 3, three), about(api.Seen, 0, 3, three))
	b.has(1, api.Stored{Version: three.Version, Value: 3, Past: []api.Dep{one}, Visible: 7})
	b.retries(about(api.Seen, 0, 3, three))
}

// TestSweepInOneCentre: what is put is everywhere at once.
func TestSweepInOneCentre(t *testing.T) {
	b := newBench(t, 1, 1, 0)
	b.sweeps(1)
	b.receives(put(1, 1, 0, 5), putted(1, 1, 1, dep(0, 1, 0)))
	b.receives(put(1, 2, 0, 6, dep(0, 1, 0)), putted(1, 2, 2, dep(0, 2, 0)))
	b.sweeps(4)
	b.has(0, api.Stored{Version: version(2, 0), Value: 6, Visible: 3, Everywhere: 3, Settled: true})
}
