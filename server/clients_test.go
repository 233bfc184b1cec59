package server_test

import (
	"testing"

	"antiphon/api"
)

func TestPut(t *testing.T) {
	b := newBench(t, 3, 2, 2)
	past := []api.Dep{dep(1, 3, 3), dep(2, 4, 0)}
	m := put(6, 1, 4, -9, past...)
	m.Clock = 4
	b.receives(m,
		copied(0, 5, dep(4, 5, 2), -9, past...),
		copied(4, 5, dep(4, 5, 2), -9, past...),
		putted(6, 5, 1, dep(4, 5, 2)))
	b.has(4, api.Stored{Version: version(5, 2), Value: -9, Past: past, Visible: 1})
	b.has(0)

	b.receives(put(7, 1, 4, 3),
		copied(0, 6, dep(4, 6, 2), 3), copied(4, 6, dep(4, 6, 2), 3), putted(7, 6, 1, dep(4, 6, 2)))
	b.has(4,
		api.Stored{Version: version(5, 2), Value: -9, Past: past, Visible: 1, Covered: 2},
		api.Stored{Version: version(6, 2), Value: 3, Visible: 2})
}

func TestPutInOneCentre(t *testing.T) {
	b := newBench(t, 1, 3, 2)
	b.receives(put(3, 1, 5, 1), putted(3, 1, 1, dep(5, 1, 2)))
	b.receives(put(3, 2, 2, 8), putted(3, 2, 2, dep(2, 2, 2)))
	b.has(5, api.Stored{Version: version(1, 2), Value: 1, Visible: 1, Everywhere: 1})
	b.has(2, api.Stored{Version: version(2, 2), Value: 8, Visible: 2, Everywhere: 2})
	b.retries()
}

// TestPutAgain: the same answer for the last one, with the clock of now;
// none for one below it; each session is counted for itself.
func TestPutAgain(t *testing.T) {
	b := newBench(t, 2, 1, 1)
	b.receives(put(2, 3, 0, 5), copied(0, 1, dep(0, 1, 1), 5), putted(2, 1, 3, dep(0, 1, 1)))
	b.receives(put(2, 3, 0, 5), putted(2, 1, 3, dep(0, 1, 1)))
	b.receives(put(3, 1, 4, 6), copied(0, 2, dep(4, 2, 1), 6), putted(3, 2, 1, dep(4, 2, 1)))
	b.receives(put(2, 3, 0, 5), putted(2, 2, 3, dep(0, 1, 1)))
	b.receives(put(2, 4, 2, 7), copied(0, 3, dep(2, 3, 1), 7), putted(2, 3, 4, dep(2, 3, 1)))
	for op := range 4 {
		b.receives(put(2, op, 0, 5))
	}
	b.receives(put(2, 4, 2, 7), putted(2, 3, 4, dep(2, 3, 1)))
	b.receives(put(3, 1, 4, 6), putted(3, 3, 1, dep(4, 2, 1)))
	b.has(0, api.Stored{Version: version(1, 1), Value: 5, Visible: 1})
	b.has(2, api.Stored{Version: version(3, 1), Value: 7, Visible: 5})
	b.has(4, api.Stored{Version: version(2, 1), Value: 6, Visible: 3})
}

// TestOldPutRaisesTheClock: also what is passed over is received.
func TestOldPutRaisesTheClock(t *testing.T) {
	b := newBench(t, 1, 1, 0)
	b.receives(put(1, 2, 0, 5), putted(1, 1, 2, dep(0, 1, 0)))
	old := put(1, 1, 0, 4)
	old.Clock = 20
	b.receives(old)
	b.receives(put(1, 3, 0, 6), putted(1, 21, 3, dep(0, 21, 0)))
}

func question(kind, from, op, index int, d api.Dep) api.Message {
	m := about(kind, from, 0, d)
	m.Op, m.Index = op, index
	return m
}

func TestGet(t *testing.T) {
	b := newBench(t, 2, 1, 0)
	get := question(api.Get, 3, 8, 2, dep(1, 0, 0))
	b.receives(get, got(api.Got, 3, 0, 8, 2, dep(1, 0, 0), 0))
	b.receives(put(2, 1, 1, 7, dep(0, 1, 1)), copied(1, 1, dep(1, 1, 0), 7, dep(0, 1, 1)), putted(2, 1, 1, dep(1, 1, 0)))
	b.receives(get, got(api.Got, 3, 1, 8, 2, dep(1, 1, 0), 7, dep(0, 1, 1)))
	b.receives(question(api.Get, 2, 2, 0, dep(0, 0, 0)), got(api.Got, 2, 1, 2, 0, dep(0, 0, 0), 0))

	// A lesser one that comes late is not the latest; nor is a greater one that is pending.
	b.receives(copied(1, 1, dep(1, 0, 1), 4), about(api.Kept, 1, 1, dep(1, 0, 1)), about(api.Seen, 1, 1, dep(1, 0, 1)))
	b.receives(copied(1, 9, dep(1, 9, 1), 5, dep(0, 8, 1)), about(api.Kept, 1, 9, dep(1, 9, 1)))
	b.receives(get, got(api.Got, 3, 9, 8, 2, dep(1, 1, 0), 7, dep(0, 1, 1)))

	b.receives(copied(1, 8, dep(0, 8, 1), 0),
		about(api.Kept, 1, 9, dep(0, 8, 1)), about(api.Seen, 1, 9, dep(0, 8, 1)), about(api.Seen, 1, 9, dep(1, 9, 1)))
	b.receives(get, got(api.Got, 3, 9, 8, 2, dep(1, 9, 1), 5, dep(0, 8, 1)))
}

func TestFetch(t *testing.T) {
	b := newBench(t, 2, 1, 0)
	b.receives(question(api.Fetch, 3, 8, 2, dep(1, 1, 0)), got(api.Fetched, 3, 0, 8, 2, dep(1, 0, 0), 0))
	b.receives(put(2, 1, 1, 7, dep(0, 1, 1)), copied(1, 1, dep(1, 1, 0), 7, dep(0, 1, 1)), putted(2, 1, 1, dep(1, 1, 0)))
	b.receives(put(2, 2, 1, 6), copied(1, 2, dep(1, 2, 0), 6), putted(2, 2, 2, dep(1, 2, 0)))
	b.receives(question(api.Fetch, 3, 8, 2, dep(1, 1, 0)), got(api.Fetched, 3, 2, 8, 2, dep(1, 1, 0), 7, dep(0, 1, 1)))
	b.receives(question(api.Fetch, 3, 8, 5, dep(1, 2, 0)), got(api.Fetched, 3, 2, 8, 5, dep(1, 2, 0), 6))
	b.receives(copied(1, 3, dep(1, 3, 1), 5, dep(0, 8, 1)), about(api.Kept, 1, 3, dep(1, 3, 1)))
	b.receives(question(api.Fetch, 3, 8, 0, dep(1, 3, 1)), got(api.Fetched, 3, 3, 8, 0, dep(1, 0, 0), 0))
}

// TestAnswersOnly: what is sent to sessions alone does no more than raise the clock.
func TestAnswersOnly(t *testing.T) {
	b := newBench(t, 2, 1, 0)
	for i, kind := range []int{api.Putted, api.Got, api.Fetched} {
		b.receives(about(kind, 1, 5+i, dep(0, 5, 1)))
	}
	b.has(0)
	b.receives(put(2, 1, 0, 0), copied(1, 8, dep(0, 8, 0), 0), putted(2, 8, 1, dep(0, 8, 0)))
}
