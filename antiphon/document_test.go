package antiphon_test

import (
	"testing"

	"antiphon/api"
)

// TestExamples of the document, 1 to 3, with all that is under way.
func TestExamples(t *testing.T) {
	b := newBench(t, config(2, 1, 2), 0, 1)
	b.ok(b.Put(0, 0, 7))
	b.under([]byte{1, 2, 0, 0, 1, 0, 14, 0})
	b.ok(b.Deliver(0))
	copyOne := []byte{7, 0, 1, 1, 0, 1, 0, 14, 0}
	b.under(copyOne, []byte{2, 0, 2, 1, 1, 0, 1, 0})
	b.did(0)

	b.ok(b.Deliver(1))
	b.under(copyOne)
	b.did(0, result(api.DidPut, 1, 3, dep(0, 1, 0), 7))
	b.knows(0, dep(0, 1, 0))
	b.ok(b.Put(0, 1, 8))
	b.under(copyOne, []byte{1, 2, 0, 1, 2, 1, 16, 1, 0, 1, 0})
	b.ok(b.Deliver(1))
	copyTwo, puttedTwo := []byte{7, 0, 1, 2, 1, 2, 0, 16, 1, 0, 1, 0}, []byte{2, 0, 2, 2, 2, 1, 2, 0}
	b.under(copyOne, copyTwo, puttedTwo)
	b.has(0, 1, api.Stored{Version: version(2, 0), Value: 8, Past: []api.Dep{dep(0, 1, 0)}, Visible: 5})

	b.ok(b.Deliver(1))
	keptTwo := []byte{8, 1, 0, 2, 1, 2, 0}
	b.under(copyOne, puttedTwo, keptTwo)
	b.has(1, 1, api.Stored{Version: version(2, 0), Value: 8, Past: []api.Dep{dep(0, 1, 0)}})
	b.ok(b.Get(1, 1))
	b.under(copyOne, puttedTwo, keptTwo, []byte{3, 3, 1, 0, 1, 0, 1})
	b.ok(b.Deliver(3))
	b.under(copyOne, puttedTwo, keptTwo, []byte{4, 1, 3, 2, 1, 0, 1, 0, 0, 0, 0, 0})
	b.ok(b.Deliver(3))
	b.did(1, result(api.DidGet, 7, 9, dep(1, 0, 0), 0))
	b.knows(1)

	b.ok(b.Deliver(0))
	b.under(puttedTwo, keptTwo, []byte{8, 1, 0, 2, 0, 1, 0}, []byte{11, 1, 0, 2, 0, 1, 0}, []byte{11, 1, 0, 2, 1, 2, 0})
	b.has(1, 0, api.Stored{Version: version(1, 0), Value: 7, Visible: 10})
	b.has(1, 1, api.Stored{Version: version(2, 0), Value: 8, Past: []api.Dep{dep(0, 1, 0)}, Visible: 10})
}

// TestShards: the servers are 0 1, 2 3; the sessions stand at 4 and 5.
func TestShards(t *testing.T) {
	b := newBench(t, config(2, 2, 4), 1, 0)
	b.ok(b.Put(0, 2, -1), b.Deliver(0), b.Deliver(1), b.Put(0, 3, 300), b.Deliver(1), b.Deliver(2))
	copyOne, copyTwo := []byte{7, 2, 0, 1, 2, 1, 2, 1, 0}, []byte{7, 3, 1, 2, 3, 2, 3, 0xd8, 4, 1, 2, 1, 2}
	b.under(copyOne, copyTwo)
	b.knows(0, dep(2, 1, 2), dep(3, 2, 3))

	b.ok(b.Deliver(1)) // the second one comes first, and asks for the first one
	need, keptTwo := []byte{9, 1, 0, 2, 2, 1, 2, 3, 2, 3}, []byte{8, 1, 3, 2, 3, 2, 3}
	b.under(copyOne, need, keptTwo)
	b.ok(b.Deliver(1), b.Retry(1), b.Deliver(2))
	b.under(copyOne, keptTwo)
	b.ok(b.Get(1, 3))
	b.under(copyOne, keptTwo, []byte{3, 5, 1, 0, 1, 0, 3})
	b.ok(b.Deliver(2), b.Deliver(2))
	b.did(1, result(api.DidGet, 11, 13, dep(3, 0, 0), 0))

	b.ok(b.Deliver(0)) // who waits is told so, once
	keptOne, seenOne, met := []byte{8, 0, 2, 2, 2, 1, 2}, []byte{11, 0, 2, 2, 2, 1, 2}, []byte{10, 0, 1, 2, 2, 1, 2, 3, 2, 3}
	b.under(keptTwo, keptOne, seenOne, met)
	b.ok(b.Deliver(3))
	b.under(keptTwo, keptOne, seenOne, []byte{11, 1, 3, 2, 3, 2, 3})
	b.has(1, 3, api.Stored{Version: version(2, 3), Value: 300, Past: []api.Dep{dep(2, 1, 2)}, Visible: 15})
	b.ok(b.Deliver(2), b.Deliver(2), b.Deliver(2), b.Deliver(2))
	b.under(keptTwo, keptOne)
	b.has(2, 2, api.Stored{Version: version(1, 2), Value: -1, Visible: 2, Everywhere: 16})
	b.has(0, 2, api.Stored{Version: version(1, 2), Value: -1, Visible: 14, Everywhere: 18})
	b.has(3, 3, api.Stored{Version: version(2, 3), Value: 300, Past: []api.Dep{dep(2, 1, 2)}, Visible: 5, Everywhere: 17})

	b.ok(b.Get(1, 3), b.Deliver(2))
	b.under(keptTwo, keptOne, []byte{4, 1, 5, 2, 2, 0, 3, 2, 3, 0xd8, 4, 1, 2, 1, 2, 0})
	b.ok(b.Deliver(2))
	b.knows(1, dep(2, 1, 2), dep(3, 2, 3))
	b.did(1, result(api.DidGet, 11, 13, dep(3, 0, 0), 0), result(api.DidGet, 20, 22, dep(3, 2, 3), 300))

	b.ok(b.Retry(2), b.Retry(3)) // KEPT has not come to either
	b.under(keptTwo, keptOne, []byte{7, 2, 0, 2, 2, 1, 2, 1, 0}, copyTwo)
	b.ok(b.Drop(2), b.Drop(2), b.Deliver(0), b.Deliver(0))
	for address := range b.addresses() {
		b.ok(b.Retry(address))
	}
	b.under()
}
