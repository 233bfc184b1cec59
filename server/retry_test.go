package server_test

import (
	"testing"

	"antiphon/api"
)

// TestRetry: for each version that reached it, in the order in which it came.
func TestRetry(t *testing.T) {
	b := newBench(t, 3, 2, 2) // its twins are 0 and 4; the centre's other server is 3
	b.retries()
	seen, mine, pends, known := dep(0, 5, 4), dep(2, 6, 2), dep(4, 7, 0), dep(0, 1, 0)
	b.receives(copied(4, 5, seen, 1), about(api.Kept, 4, 5, seen), about(api.Seen, 4, 5, seen))
	b.receives(put(6, 1, 2, 2, seen), copied(0, 6, mine, 2, seen), copied(4, 6, mine, 2, seen), putted(6, 6, 1, mine))
	b.receives(copied(0, 7, pends, 3, dep(0, 9, 0), dep(1, 3, 1), dep(2, 8, 0), dep(3, 2, 3), dep(5, 1, 5)),
		aboutFor(api.Need, 3, 7, dep(1, 3, 1), pends),
		aboutFor(api.Need, 3, 7, dep(3, 2, 3), pends),
		aboutFor(api.Need, 3, 7, dep(5, 1, 5), pends),
		about(api.Kept, 0, 7, pends))
	b.receives(copied(0, 1, known, 4), about(api.Kept, 0, 7, known), about(api.Seen, 0, 7, known))
	b.receives(about(api.Everywhere, 0, 7, known))
	b.receives(about(api.Kept, 0, 7, mine))
	b.receives(aboutFor(api.Met, 3, 8, dep(3, 2, 3), pends))
	for range 2 {
		b.retries(
			about(api.Seen, 4, 8, seen),
			copied(4, 8, mine, 2, seen),
			aboutFor(api.Need, 3, 8, dep(1, 3, 1), pends),
			aboutFor(api.Need, 3, 8, dep(5, 1, 5), pends))
	}
}
