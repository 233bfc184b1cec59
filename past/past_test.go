package past_test

import (
	"slices"
	"testing"

	"antiphon/api"
	"antiphon/past"
)

func version(clock, server int) api.Version { return api.Version{Clock: clock, Server: server} }

func dep(key, clock, server int) api.Dep { return api.Dep{Key: key, Version: version(clock, server)} }

func TestGreater(t *testing.T) {
	rising := []api.Version{version(0, 0), version(0, 1), version(1, 0), version(1, 1), version(1, 8), version(2, 0), version(10, 3)}
	for i, a := range rising {
		for j, b := range rising {
			if got := past.Greater(a, b); got != (i > j) {
				t.Errorf("Greater(%v, %v) = %v", a, b, got)
			}
		}
	}
}

func TestJoin(t *testing.T) {
	for _, c := range []struct{ p, more, want []api.Dep }{
		{nil, nil, nil},
		{nil, []api.Dep{dep(3, 1, 0)}, []api.Dep{dep(3, 1, 0)}},
		{[]api.Dep{dep(3, 1, 0)}, nil, []api.Dep{dep(3, 1, 0)}},
		{[]api.Dep{dep(1, 5, 0), dep(3, 1, 0)}, []api.Dep{dep(2, 1, 0)}, []api.Dep{dep(1, 5, 0), dep(2, 1, 0), dep(3, 1, 0)}},
		{[]api.Dep{dep(1, 5, 0)}, []api.Dep{dep(0, 1, 0), dep(5, 2, 2)}, []api.Dep{dep(0, 1, 0), dep(1, 5, 0), dep(5, 2, 2)}},
		{[]api.Dep{dep(1, 5, 1), dep(3, 1, 0)}, []api.Dep{dep(1, 5, 2), dep(3, 2, 0)}, []api.Dep{dep(1, 5, 2), dep(3, 2, 0)}},
		{[]api.Dep{dep(1, 5, 1), dep(3, 2, 0)}, []api.Dep{dep(1, 5, 0), dep(3, 1, 9)}, []api.Dep{dep(1, 5, 1), dep(3, 2, 0)}},
		{nil, []api.Dep{dep(4, 1, 0), dep(2, 3, 0), dep(4, 2, 0), dep(2, 1, 1)}, []api.Dep{dep(2, 3, 0), dep(4, 2, 0)}},
	} {
		if got := past.Join(c.p, c.more...); !slices.Equal(got, c.want) {
			t.Errorf("Join(%v, %v) = %v, want %v", c.p, c.more, got, c.want)
		}
	}
}

// TestJoinIsNew: neither list is written into, nor its spare room.
func TestJoinIsNew(t *testing.T) {
	p := []api.Dep{dep(1, 1, 0), dep(3, 1, 0), dep(9, 9, 9)}
	more := []api.Dep{dep(0, 1, 0), dep(1, 2, 0), dep(9, 9, 9)}
	pWas, moreWas := slices.Clone(p), slices.Clone(more)
	joined := past.Join(p[:2], more[:2]...)
	for i := range joined {
		joined[i] = dep(7, 7, 7)
	}
	if !slices.Equal(p, pWas) || !slices.Equal(more, moreWas) {
		t.Errorf("P2: Join left %v and %v", p, more)
	}
	if same := past.Join(p); &same[0] == &p[0] {
		t.Error("P2: Join of nothing more is the same memory")
	}
}

func TestOf(t *testing.T) {
	p := []api.Dep{dep(1, 5, 0), dep(3, 1, 2)}
	for key, want := range []api.Version{{}, version(5, 0), {}, version(1, 2), {}} {
		if got := past.Of(p, key); got != want {
			t.Errorf("Of(%v, %d) = %v, want %v", p, key, got, want)
		}
	}
	if got := past.Of(nil, 0); got != (api.Version{}) {
		t.Errorf("Of nothing = %v", got)
	}
}
