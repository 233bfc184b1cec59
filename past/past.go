// Package past: versions held against each other, and pasts.
package past

import (
	"cmp"
	"slices"

	"antiphon/api"
)

// Greater tells whether a is the greater one of two versions.
func Greater(a, b api.Version) bool {
	return cmp.Or(cmp.Compare(a.Clock, b.Clock), cmp.Compare(a.Server, b.Server)) > 0
}

// Join answers a new past: of each key that p or more has, the greatest
// version. What more has may come in any order.
func Join(p []api.Dep, more ...api.Dep) []api.Dep {
	joined := slices.Clone(p)
	for _, d := range more {
		joined = put(joined, d)
	}
	return joined
}

// Of answers the version that p has of a key; none, if it has none.
func Of(p []api.Dep, key int) api.Version {
	place, found := slices.BinarySearchFunc(p, key, compareKey)
	if !found {
		return api.Version{}
	}
	return p[place].Version
}

// put writes into p, which must be Join's own.
func put(p []api.Dep, d api.Dep) []api.Dep {
	place, found := slices.BinarySearchFunc(p, d.Key, compareKey)
	if !found {
		return slices.Insert(p, place, d)
	}
	if Greater(d.Version, p[place].Version) {
		p[place] = d
	}
	return p
}

func compareKey(d api.Dep, key int) int {
	return cmp.Compare(d.Key, key)
}
