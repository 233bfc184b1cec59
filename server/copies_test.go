package server_test

import (
	"testing"

	"antiphon/api"
)

func TestCopy(t *testing.T) {
	b := newBench(t, 3, 2, 2)
	one := dep(4, 5, 0)
	b.receives(copied(0, 7, one, -3), about(api.Kept, 0, 7, one), about(api.Seen, 0, 7, one))
	b.has(4, api.Stored{Version: one.Version, Value: -3, Visible: 1})
	b.receives(copied(0, 6, one, -3), about(api.Kept, 0, 7, one))
	b.has(4, api.Stored{Version: one.Version, Value: -3, Visible: 1})
}

// TestCopyNeeds: what lives on this shard is looked for here, what lives on
// others is asked for there, by keys, whatever is known of it; it is asked
// for but once, and KEPT is sent each time.
func TestCopyNeeds(t *testing.T) {
	b := newBench(t, 3, 3, 4) // keys 1 and 4; the centre's servers are 3, 4, 5
	here, one := dep(1, 6, 1), dep(4, 9, 7)
	past := []api.Dep{dep(0, 5, 0), here, dep(2, 1, 2), dep(3, 5, 3), dep(4, 2, 4), dep(5, 8, 8)}
	m := copied(7, 9, one, 3, past...)
	b.receives(m,
		aboutFor(api.Need, 3, 9, dep(0, 5, 0), one),
		aboutFor(api.Need, 5, 9, dep(2, 1, 2), one),
		aboutFor(api.Need, 3, 9, dep(3, 5, 3), one),
		aboutFor(api.Need, 5, 9, dep(5, 8, 8), one),
		about(api.Kept, 7, 9, one))
	b.receives(m, about(api.Kept, 7, 9, one))
	b.has(4, api.Stored{Version: one.Version, Value: 3, Past: past})
	b.receives(copied(1, 6, here, 2), about(api.Kept, 1, 9, here), about(api.Seen, 1, 9, here))
	b.has(1, api.Stored{Version: here.Version, Value: 2, Visible: 3})
}

// TestCopyNeedsNothing: all of its past is here already; a covered one does as well.
func TestCopyNeedsNothing(t *testing.T) {
	b := newBench(t, 2, 1, 1)
	b.receives(put(2, 1, 0, 1), copied(0, 1, dep(0, 1, 1), 1), putted(2, 1, 1, dep(0, 1, 1)))
	b.receives(put(2, 2, 0, 2), copied(0, 2, dep(0, 2, 1), 2), putted(2, 2, 2, dep(0, 2, 1)))
	one := dep(3, 2, 0)
	b.receives(copied(0, 2, one, 5, dep(0, 1, 1)), about(api.Kept, 0, 2, one), about(api.Seen, 0, 2, one))
}

// TestCopyNeedsThatOne: a greater version of the key does not do.
func TestCopyNeedsThatOne(t *testing.T) {
	b := newBench(t, 3, 1, 1)
	greater, lesser, one := dep(0, 9, 2), dep(0, 8, 2), dep(1, 9, 0)
	b.receives(copied(2, 9, greater, 1), about(api.Kept, 2, 9, greater), about(api.Seen, 2, 9, greater))
	b.receives(copied(0, 9, one, 5, lesser), about(api.Kept, 0, 9, one))
	b.has(1, api.Stored{Version: one.Version, Value: 5, Past: []api.Dep{lesser}})
	b.receives(copied(2, 8, lesser, 2), about(api.Kept, 2, 9, lesser), about(api.Seen, 2, 9, lesser), about(api.Seen, 0, 9, one))
	b.has(0,
		api.Stored{Version: greater.Version, Value: 1, Visible: 1},
		api.Stored{Version: lesser.Version, Value: 2, Visible: 3, Covered: 3})
}

func TestCovered(t *testing.T) {
	b := newBench(t, 3, 1, 1)
	middle, low, high := dep(0, 5, 2), dep(0, 5, 0), dep(0, 6, 0)
	for i, d := range []api.Dep{middle, low, high} {
		from := d.Version.Server
		b.receives(copied(from, 6, d, i), about(api.Kept, from, 6, d), about(api.Seen, from, 6, d))
	}
	b.has(0,
		api.Stored{Version: middle.Version, Value: 0, Visible: 1, Covered: 3},
		api.Stored{Version: low.Version, Value: 1, Visible: 2, Covered: 2},
		api.Stored{Version: high.Version, Value: 2, Visible: 3})
}

func TestKept(t *testing.T) {
	b := newBench(t, 3, 1, 1)
	b.receives(about(api.Kept, 0, 0, dep(0, 1, 1))) // of what has not reached it
	one, two := dep(0, 1, 1), dep(5, 2, 1)
	b.receives(put(3, 1, 0, 7), copied(0, 1, one, 7), copied(2, 1, one, 7), putted(3, 1, 1, one))
	b.receives(put(3, 2, 5, 8, one), copied(0, 2, two, 8, one), copied(2, 2, two, 8, one), putted(3, 2, 2, two))
	b.retries(copied(0, 2, one, 7), copied(2, 2, one, 7), copied(0, 2, two, 8, one), copied(2, 2, two, 8, one))
	b.receives(about(api.Kept, 2, 2, one))
	b.retries(copied(0, 2, one, 7), copied(0, 2, two, 8, one), copied(2, 2, two, 8, one))
	b.receives(about(api.Kept, 2, 2, one))
	b.receives(about(api.Kept, 0, 4, two))
	b.retries(copied(0, 4, one, 7), copied(2, 4, two, 8, one))
	b.receives(about(api.Kept, 0, 4, one))
	b.receives(about(api.Kept, 2, 4, two))
	b.retries()
}

func TestSeen(t *testing.T) {
	b := newBench(t, 3, 2, 3)
	one := dep(1, 1, 3)
	b.receives(about(api.Seen, 5, 0, one)) // of what has not reached it
	b.receives(put(6, 1, 1, 7), copied(1, 1, one, 7), copied(5, 1, one, 7), putted(6, 1, 1, one))
	b.receives(about(api.Seen, 5, 1, one))
	b.receives(about(api.Seen, 5, 1, one)) // a centre is counted once
	b.has(1, api.Stored{Version: one.Version, Value: 7, Visible: 2})
	b.receives(about(api.Seen, 1, 3, one), about(api.Everywhere, 1, 3, one), about(api.Everywhere, 5, 3, one))
	b.has(1, api.Stored{Version: one.Version, Value: 7, Visible: 2, Everywhere: 5})
	b.receives(about(api.Seen, 5, 3, one), about(api.Everywhere, 5, 3, one))
	b.receives(about(api.Seen, 1, 3, one), about(api.Everywhere, 1, 3, one))
	b.has(1, api.Stored{Version: one.Version, Value: 7, Visible: 2, Everywhere: 5})
	// SEEN is not KEPT: by the document's words the COPY is sent again.
	b.retries(copied(1, 3, one, 7), copied(5, 3, one, 7))
}

func TestEverywhere(t *testing.T) {
	b := newBench(t, 2, 1, 1)
	one, two := dep(0, 1, 0), dep(1, 2, 0)
	b.receives(about(api.Everywhere, 0, 0, one)) // of what has not reached it
	b.receives(copied(0, 2, two, 8, one), about(api.Kept, 0, 2, two))
	b.receives(about(api.Everywhere, 0, 0, two)) // of a pending one
	b.has(1, api.Stored{Version: two.Version, Value: 8, Past: []api.Dep{one}})
	b.receives(copied(0, 2, one, 7), about(api.Kept, 0, 2, one), about(api.Seen, 0, 2, one), about(api.Seen, 0, 2, two))
	b.has(0, api.Stored{Version: one.Version, Value: 7, Visible: 4})
	b.receives(about(api.Everywhere, 0, 0, one))
	b.receives(about(api.Everywhere, 0, 0, one))
	b.has(0, api.Stored{Version: one.Version, Value: 7, Visible: 4, Everywhere: 5})
	b.has(1, api.Stored{Version: two.Version, Value: 8, Past: []api.Dep{one}, Visible: 4})
	b.retries(about(api.Seen, 0, 2, two))
}
