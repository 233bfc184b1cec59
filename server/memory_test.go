package server_test

import (
	"testing"

	"antiphon/api"
)

// TestListsAreNotShared: neither what came in nor what goes out is kept.
func TestListsAreNotShared(t *testing.T) {
	b := newBench(t, 2, 1, 1)
	handed := []api.Dep{dep(0, 1, 0)}
	m := copied(0, 2, dep(1, 2, 0), 5, handed...)
	b.receives(m, about(api.Kept, 0, 2, dep(1, 2, 0)))
	handed[0] = dep(4, 4, 4)
	want := api.Stored{Version: version(2, 0), Value: 5, Past: []api.Dep{dep(0, 1, 0)}}
	b.has(1, want)

	told := b.server.Stored(1)
	told[0].Past[0] = dep(3, 3, 3)
	_ = append(told[0].Past, dep(5, 5, 5))
	told[0].Value = 99
	b.has(1, want)
	b.receives(copied(0, 2, dep(0, 1, 0), 4),
		about(api.Kept, 0, 2, dep(0, 1, 0)), about(api.Seen, 0, 2, dep(0, 1, 0)), about(api.Seen, 0, 2, dep(1, 2, 0)))
}
