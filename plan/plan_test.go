package plan_test

import (
	"math"
	"slices"
	"testing"

	"antiphon/api"
	"antiphon/plan"
)

func TestFits(t *testing.T) {
	numbers := []int{math.MinInt, -1, 0, 1, 2, 3, 4, 5, 6, 7, 1 << 32, math.MaxInt}
	for _, centres := range numbers {
		for _, shards := range numbers {
			for _, keys := range numbers {
				c := api.Config{Centres: centres, Shards: shards, Keys: keys}
				want := slices.Contains(numbers[3:6], centres) && slices.Contains(numbers[3:6], shards) && slices.Contains(numbers[3:9], keys)
				if got := plan.Fits(c); got != want {
					t.Errorf("P4: Fits(%+v) = %v", c, got)
				}
			}
		}
	}
}

func threeByTwo() plan.Plan {
	return plan.Plan{Config: api.Config{Centres: 3, Shards: 2, Keys: 5}}
}

func TestNumbers(t *testing.T) {
	p := threeByTwo()
	if p.Servers() != 6 || p.Address(0) != 6 || p.Address(7) != 13 {
		t.Errorf("%d servers, sessions from %d to %d", p.Servers(), p.Address(0), p.Address(7))
	}
	for n, want := range []int{0, 0, 1, 1, 2, 2} {
		if got := p.Centre(n); got != want {
			t.Errorf("Centre(%d) = %d, want %d", n, got, want)
		}
	}
	for _, c := range []struct{ centre, key, want int }{{0, 0, 0}, {0, 1, 1}, {0, 4, 0}, {1, 0, 2}, {1, 3, 3}, {2, 2, 4}, {2, 3, 5}} {
		if got := p.Home(c.centre, c.key); got != c.want {
			t.Errorf("Home(%d, %d) = %d, want %d", c.centre, c.key, got, c.want)
		}
	}
}

func TestLivesOn(t *testing.T) {
	p := threeByTwo()
	for server := range 6 {
		for key := range 5 {
			if got := p.LivesOn(key, server); got != (key%2 == server%2) {
				t.Errorf("LivesOn(%d, %d) = %v", key, server, got)
			}
		}
	}
}

func TestHas(t *testing.T) {
	p := threeByTwo()
	for _, c := range []struct {
		name string
		has  func(int) bool
		many int
	}{{"centre", p.HasCentre, 3}, {"server", p.HasServer, 6}, {"key", p.HasKey, 5}} {
		for _, n := range []int{math.MinInt, -1, 0, 1, c.many - 1, c.many, c.many + 1, math.MaxInt} {
			if got := c.has(n); got != (n >= 0 && n < c.many) {
				t.Errorf("has %s %d: %v", c.name, n, got)
			}
		}
	}
}

func TestTwins(t *testing.T) {
	p := threeByTwo()
	for server, want := range [][]int{{2, 4}, {3, 5}, {0, 4}, {1, 5}, {0, 2}, {1, 3}} {
		if got := slices.Collect(p.Twins(server)); !slices.Equal(got, want) {
			t.Errorf("Twins(%d) = %v, want %v", server, got, want)
		}
	}
	alone := plan.Plan{Config: api.Config{Centres: 1, Shards: 3, Keys: 3}}
	for server := range 3 {
		if got := slices.Collect(alone.Twins(server)); len(got) != 0 {
			t.Errorf("Twins(%d) of one centre = %v", server, got)
		}
	}
	for range p.Twins(2) {
		break
	}
}
