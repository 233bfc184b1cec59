package antiphon_test

import (
	"testing"

	"antiphon/api"
)

// scribble writes into a list and into its spare room.
func scribble[T any](list []T, one T) {
	list = list[:cap(list)]
	for i := range list {
		list[i] = one
	}
}

// scribbleAll writes into all lists that come out.
func scribbleAll(b *bench) {
	for _, one := range b.bytes() {
		scribble(one, 200)
	}
	for session := range b.sessions {
		scribble(b.context(session), dep(9, 9, 9))
		results := b.results(session)
		for _, r := range results {
			scribble(r.Keys, 9)
			scribble(r.Versions, version(9, 9))
			scribble(r.Values, 9)
		}
		scribble(results, api.Result{})
	}
	b.all(func(server, key int, stored []api.Stored) {
		for _, w := range stored {
			scribble(w.Past, dep(9, 9, 9))
		}
		scribble(stored, api.Stored{})
	})
}

// TestListsAreNew: whatever is written into what came out, the cluster goes
// on as one from which nothing came out.
func TestListsAreNew(t *testing.T) {
	for seed := range int64(20) {
		scribbled, left := newStory(t, seed), newStory(t, seed)
		for range 150 {
			scribbled.goOn()
			left.goOn()
			scribbleAll(scribbled.bench)
		}
		if got, want := scribbled.picture(), left.picture(); got != want {
			t.Fatalf("P2: there is\n%s, want\n%s", got, want)
		}
	}
}

// TestListsOfOneAnswer share nothing with each other.
func TestListsOfOneAnswer(t *testing.T) {
	b := newBench(t, config(1, 1, 2), 0)
	for n := range 4 {
		b.ok(b.Put(0, n%2, n), b.Deliver(0), b.Deliver(0))
	}
	results := b.results(0)
	scribble(results[1].Keys, 9)
	scribble(results[1].Versions, version(9, 9))
	scribble(results[1].Values, 9)
	for n, r := range results {
		if n != 1 && (r.Keys[0] != n%2 || r.Versions[0] != version(n+1, 0) || r.Values[0] != n) {
			t.Errorf("P2: result %d is %+v", n, r)
		}
	}
	stored := b.stored(0, 1)
	scribble(stored[0].Past, dep(9, 9, 9))
	if p := stored[1].Past; len(p) != 2 || p[0] != dep(0, 3, 0) || p[1] != dep(1, 2, 0) {
		t.Errorf("P2: the past of the second one is %v", p)
	}
}
