package server_test

import (
	"testing"

	"antiphon/api"
)

func TestNeed(t *testing.T) {
	b := newBench(t, 2, 3, 4) // its centre's servers are 3, 4, 5; its twin is 1
	one := dep(1, 4, 1)
	first, second, third := dep(3, 5, 0), dep(5, 6, 2), dep(5, 7, 2)
	b.receives(aboutFor(api.Need, 5, 6, one, second))
	b.receives(aboutFor(api.Need, 3, 6, one, first))
	b.receives(aboutFor(api.Need, 5, 6, one, second)) // each waits once
	b.receives(aboutFor(api.Need, 5, 7, one, third))
	b.receives(aboutFor(api.Need, 3, 7, one, third)) // the same For, another sender
	b.has(1)
	b.receives(copied(1, 4, one, 7),
		about(api.Kept, 1, 7, one),
		about(api.Seen, 1, 7, one),
		aboutFor(api.Met, 5, 7, one, second),
		aboutFor(api.Met, 3, 7, one, first),
		aboutFor(api.Met, 5, 7, one, third),
		aboutFor(api.Met, 3, 7, one, third))
	b.receives(aboutFor(api.Need, 5, 8, one, second), aboutFor(api.Met, 5, 8, one, second))
	b.receives(aboutFor(api.Need, 5, 8, one, second), aboutFor(api.Met, 5, 8, one, second))
}

// TestNeedOfPending: what has come and is pending is waited for, too.
func TestNeedOfPending(t *testing.T) {
	b := newBench(t, 2, 2, 2)
	ahead, one, asks := dep(2, 3, 0), dep(0, 4, 0), dep(1, 5, 1)
	b.receives(copied(0, 4, one, 7, ahead), about(api.Kept, 0, 4, one))
	b.receives(aboutFor(api.Need, 3, 5, one, asks))
	b.receives(copied(0, 4, ahead, 6),
		about(api.Kept, 0, 5, ahead), about(api.Seen, 0, 5, ahead), about(api.Seen, 0, 5, one), aboutFor(api.Met, 3, 5, one, asks))
}

func TestMet(t *testing.T) {
	b := newBench(t, 2, 3, 3) // its centre's servers are 3, 4, 5; its twin is 0
	here, one := dep(0, 2, 0), dep(3, 4, 0)
	other, another := dep(1, 3, 1), dep(2, 3, 2)
	b.receives(aboutFor(api.Met, 4, 0, other, one)) // for what has not reached it
	past := []api.Dep{here, other, another}
	b.receives(copied(0, 4, one, 7, past...),
		aboutFor(api.Need, 4, 4, other, one), aboutFor(api.Need, 5, 4, another, one), about(api.Kept, 0, 4, one))
	b.receives(aboutFor(api.Met, 5, 4, another, one))
	b.receives(aboutFor(api.Met, 5, 4, another, one))
	b.receives(aboutFor(api.Met, 4, 4, dep(1, 9, 1), one)) // what it does not need
	b.retries(aboutFor(api.Need, 4, 4, other, one))
	b.receives(copied(0, 4, here, 6), about(api.Kept, 0, 4, here), about(api.Seen, 0, 4, here))
	b.has(3, api.Stored{Version: one.Version, Value: 7, Past: past})
	b.receives(aboutFor(api.Met, 4, 6, other, one), about(api.Seen, 0, 6, one))
	b.has(3, api.Stored{Version: one.Version, Value: 7, Past: past, Visible: 8})
	b.receives(aboutFor(api.Met, 4, 6, other, one))
	b.has(3, api.Stored{Version: one.Version, Value: 7, Past: past, Visible: 8})
}

// TestHereIsLast: a pending one has all from other shards, and waits for
// what lives here.
func TestHereIsLast(t *testing.T) {
	b := newBench(t, 2, 2, 2)
	here, other, one := dep(0, 2, 0), dep(1, 3, 1), dep(2, 4, 0)
	b.receives(copied(0, 4, one, 7, here, other), aboutFor(api.Need, 3, 4, other, one), about(api.Kept, 0, 4, one))
	b.receives(aboutFor(api.Met, 3, 4, other, one))
	b.retries()
	b.receives(copied(0, 2, here, 6), about(api.Kept, 0, 4, here), about(api.Seen, 0, 4, here), about(api.Seen, 0, 4, one))
}

// TestOneBehindTheOther: what one of them makes visible comes behind all
// that the same one ahead of them had made so.
func TestOneBehindTheOther(t *testing.T) {
	b := newBench(t, 2, 2, 2) // keys 0, 2 and 4; the centre's other server is 3
	root := dep(0, 1, 0)
	left, right := dep(2, 2, 0), dep(4, 3, 0)
	underLeft, underRight, underBoth := dep(0, 4, 0), dep(2, 5, 0), dep(4, 6, 0)
	kept := func(d api.Dep) api.Message { return about(api.Kept, 0, 9, d) }
	seen := func(d api.Dep) api.Message { return about(api.Seen, 0, 9, d) }
	asks := dep(1, 9, 1)

	b.receives(copied(0, 9, underBoth, 6, left, right), kept(underBoth))
	b.receives(copied(0, 9, underRight, 5, right), kept(underRight))
	b.receives(copied(0, 9, left, 2, root), kept(left))
	b.receives(copied(0, 9, right, 3, root), kept(right))
	b.receives(copied(0, 9, underLeft, 4, left), kept(underLeft))
	for _, d := range []api.Dep{underLeft, right, root, left} {
		b.receives(aboutFor(api.Need, 3, 9, d, asks))
	}
	met := func(d api.Dep) api.Message { return aboutFor(api.Met, 3, 9, d, asks) }
	b.receives(copied(0, 9, root, 1),
		kept(root),
		seen(root), met(root),
		seen(left), met(left),
		seen(right), met(right),
		seen(underLeft), met(underLeft),
		seen(underBoth),
		seen(underRight))
	b.has(0,
		api.Stored{Version: underLeft.Version, Value: 4, Past: []api.Dep{left}, Visible: 10},
		api.Stored{Version: root.Version, Value: 1, Visible: 10, Covered: 10})
}

// TestStillNeedsMore: one that is needed no more leaves the others needed.
func TestStillNeedsMore(t *testing.T) {
	b := newBench(t, 2, 1, 1)
	first, second, one := dep(0, 1, 0), dep(1, 2, 0), dep(2, 3, 0)
	b.receives(copied(0, 3, one, 3, first, second), about(api.Kept, 0, 3, one))
	b.receives(copied(0, 3, second, 2), about(api.Kept, 0, 3, second), about(api.Seen, 0, 3, second))
	b.has(2, api.Stored{Version: one.Version, Value: 3, Past: []api.Dep{first, second}})
	b.receives(copied(0, 3, first, 1), about(api.Kept, 0, 3, first), about(api.Seen, 0, 3, first), about(api.Seen, 0, 3, one))
}
