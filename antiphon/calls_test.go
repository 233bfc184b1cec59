package antiphon_test

import (
	"math"
	"testing"

	"antiphon/antiphon"
	"antiphon/api"
)

func TestNew(t *testing.T) {
	for centres := -1; centres < 9; centres++ {
		for shards := -1; shards < 9; shards++ {
			for keys := -1; keys < 9; keys++ {
				c := config(centres, shards, keys)
				fits := centres >= 1 && centres <= 3 && shards >= 1 && shards <= 3 && keys >= 1 && keys <= 6
				if !fits {
					checkNoConfig(t, c)
					continue
				}
				b := newBench(t, c)
				if b.Now() != 0 || b.Bag() != 0 {
					t.Errorf("P4: New(%+v): now %d, bag %d", c, b.Now(), b.Bag())
				}
				b.all(func(server, key int, stored []api.Stored) {
					if len(stored) != 0 {
						t.Errorf("P4: New(%+v): Stored(%d, %d) = %v", c, server, key, stored)
					}
				})
			}
		}
	}
	for _, n := range []int{math.MinInt, math.MaxInt, 1 << 32, 1<<32 + 1} {
		for _, c := range []api.Config{config(n, 1, 1), config(1, n, 1), config(1, 1, n), config(n, n, n)} {
			checkNoConfig(t, c)
		}
	}
}

func checkNoConfig(t *testing.T, c api.Config) {
	t.Helper()
	if x, e := antiphon.New(c); x != nil || e != api.ErrConfig {
		t.Errorf("P4: New(%+v) = %v, %d", c, x, e)
	}
}

func TestOpen(t *testing.T) {
	b := newBench(t, config(2, 1, 1))
	refuses := func(centre int, want api.Errno) {
		t.Helper()
		if n, e := b.Open(centre); n != 0 || e != want {
			t.Errorf("P4: Open(%d) = %d, %d, want %d", centre, n, e, want)
		}
	}
	for n := range api.MaxSessions {
		for _, centre := range noneOf(b.config.Centres) {
			refuses(centre, api.ErrArg)
		}
		b.open(n % 2)
	}
	refuses(0, api.ErrFull)
	refuses(1, api.ErrFull)
	for _, centre := range noneOf(b.config.Centres) {
		refuses(centre, api.ErrArg)
	}
	if b.Now() != 0 {
		t.Errorf("P7: Open is no step: now %d", b.Now())
	}
	// each stands in the centre in which it was opened, and at its own address
	for n := range api.MaxSessions {
		b.ok(b.Get(n, 0))
		if one, _ := b.Peek(n); len(one) < 3 || one[1] != byte(2+n) || one[2] != byte(n%2) {
			t.Errorf("P4: session %d sends %v", n, one)
		}
	}
}

// noneOf has numbers of which there is none, if there are so many.
func noneOf(many int) []int {
	return []int{many, many + 1, -1, -2, 1 << 32, 1 << 62, math.MaxInt, math.MinInt}
}

// busy: session 0 waits for an answer, session 1 is free, and all kinds of
// things are under way, pending and visible. The servers are 0 1 2, 3 4 5.
func busy(t *testing.T) *bench {
	t.Helper()
	b := newBench(t, config(2, 3, 5), 0, 1)
	for key := range 5 {
		b.ok(b.Put(0, key, 10+key), b.Deliver(b.Bag()-1), b.Deliver(b.Bag()-1))
	}
	b.ok(b.Deliver(4), b.Deliver(0), b.Put(0, 4, 99), b.Get(1, 0))
	for b.Bag() > 0 && len(b.results(1)) == 0 {
		b.ok(b.Deliver(b.Bag() - 1))
	}
	return b
}

// TestErrors: what is refused is refused by the error that is named first,
// answers nothing beside it, changes nothing, and is no step.
func TestErrors(t *testing.T) {
	b := busy(t)
	was := b.picture()
	refused := func(name string, want, e api.Errno, beside int) {
		t.Helper()
		if e != want || beside != 0 {
			t.Errorf("%s answered %d, want %d, and %d things beside it", name, e, want, beside)
		}
		if now := b.picture(); now != was {
			t.Fatalf("P1: %s changed\n%s, to\n%s", name, was, now)
		}
	}
	anyKey := append(noneOf(5), 0, 4)
	for _, s := range noneOf(b.sessions) {
		for _, key := range anyKey {
			refused("P5: Put", api.ErrArg, b.Put(s, key, 1), 0)
			refused("P5: Get", api.ErrArg, b.Get(s, key), 0)
			refused("P5: Trans", api.ErrArg, b.Trans(s, key), 0)
		}
		refused("P5: Trans", api.ErrArg, b.Trans(s), 0)
		results, e := b.Results(s)
		refused("P7: Results", api.ErrArg, e, len(results))
		context, e := b.Context(s)
		refused("P7: Context", api.ErrArg, e, len(context))
	}
	for _, key := range noneOf(5) {
		for s := range b.sessions { // also of the one that is busy
			refused("P5: Put", api.ErrArg, b.Put(s, key, 1), 0)
			refused("P5: Get", api.ErrArg, b.Get(s, key), 0)
			refused("P5: Trans", api.ErrArg, b.Trans(s, key), 0)
			refused("P5: Trans", api.ErrArg, b.Trans(s, key, 0, 1), 0)
			refused("P5: Trans", api.ErrArg, b.Trans(s, 0, 1, 2, 3, 4, key), 0)
		}
	}
	for s := range b.sessions {
		for _, keys := range [][]int{nil, {}, make([]int, 7), {0, 1, 2, 3, 4, 0, 9}, make([]int, 1000)} {
			refused("P5: Trans", api.ErrArg, b.Trans(s, keys...), 0)
		}
	}
	for key := range 5 {
		refused("P5: Put", api.ErrBusy, b.Put(0, key, 1), 0)
		refused("P5: Get", api.ErrBusy, b.Get(0, key), 0)
		refused("P5: Trans", api.ErrBusy, b.Trans(0, key), 0)
		refused("P5: Trans", api.ErrBusy, b.Trans(0, 0, 0, 1, 2, 3, key), 0)
	}
	for _, n := range noneOf(b.Bag()) {
		refused("P6: Deliver", api.ErrArg, b.Deliver(n), 0)
		refused("P6: Again", api.ErrArg, b.Again(n), 0)
		refused("P6: Drop", api.ErrArg, b.Drop(n), 0)
		one, e := b.Peek(n)
		refused("P7: Peek", api.ErrArg, e, len(one))
	}
	for _, address := range noneOf(b.addresses()) {
		refused("P6: Retry", api.ErrArg, b.Retry(address), 0)
		refused("P6: Sweep", api.ErrArg, b.Sweep(address), 0)
	}
	for _, server := range noneOf(b.servers()) { // also where sessions stand
		refused("P6: Sweep", api.ErrArg, b.Sweep(server), 0)
	}
	centre, e := b.Open(2)
	refused("P4: Open", api.ErrArg, e, centre)
}

func TestStoredArgs(t *testing.T) {
	b := busy(t)
	refused := func(server, key int) {
		t.Helper()
		if all, e := b.Stored(server, key); len(all) != 0 || e != api.ErrArg {
			t.Errorf("P7: Stored(%d, %d) = %v, %d", server, key, all, e)
		}
	}
	for server := range b.servers() {
		for key := range 5 {
			if key%3 != server%3 {
				refused(server, key)
			}
		}
		for _, key := range noneOf(5) {
			refused(server, key)
		}
	}
	for _, server := range noneOf(b.servers()) {
		for _, key := range append(noneOf(5), 0, 1, 2, 3, 4) {
			refused(server, key)
		}
	}
}

// TestBusyWithTrans: so is a session whose Trans is not done, in either round.
func TestBusyWithTrans(t *testing.T) {
	b := fetching(t)
	for _, e := range []api.Errno{b.Put(1, 0, 1), b.Get(1, 0), b.Trans(1, 0)} {
		if e != api.ErrBusy {
			t.Errorf("P5: answered %d", e)
		}
	}
	b.ok(b.Get(0, 0), b.Deliver(0), b.Deliver(1), b.Trans(1, 0))
}

// TestSteps: what is OK is one step, and what only tells is none.
func TestSteps(t *testing.T) {
	b := newBench(t, config(2, 1, 1), 0)
	for i, do := range []func() api.Errno{
		func() api.Errno { return b.Put(0, 0, 5) },
		func() api.Errno { return b.Again(0) },
		func() api.Errno { return b.Deliver(0) },
		func() api.Errno { return b.Drop(0) },
		func() api.Errno { return b.Deliver(0) },
		func() api.Errno { return b.Get(0, 0) },
		func() api.Errno { return b.Retry(0) },
		func() api.Errno { return b.Retry(1) }, // it has nothing to send
		func() api.Errno { return b.Retry(2) },
		func() api.Errno { return b.Deliver(1) }, // GET
		func() api.Errno { return b.Deliver(3) }, // GOT
		func() api.Errno { return b.Trans(0, 0) },
		func() api.Errno { return b.Sweep(0) },
		func() api.Errno { return b.Sweep(1) }, // it has nothing to sweep
	} {
		b.ok(do())
		if b.picture(); b.Now() != i+1 {
			t.Errorf("P7: now %d, want %d", b.Now(), i+1)
		}
	}
}

// TestPlacesInTheBag: Deliver and Drop take one out, Again leaves it where it
// is, and what is sent comes behind all others.
func TestPlacesInTheBag(t *testing.T) {
	b := newBench(t, config(1, 1, 6), 0, 0, 0)
	b.ok(b.Get(0, 3), b.Get(1, 4), b.Get(2, 5))
	first, second, third := []byte{3, 1, 0, 0, 1, 0, 3}, []byte{3, 2, 0, 0, 1, 0, 4}, []byte{3, 3, 0, 0, 1, 0, 5}
	answer := []byte{4, 0, 2, 0, 1, 0, 4, 0, 0, 0, 0, 0}
	b.under(first, second, third)
	b.ok(b.Again(1))
	b.under(first, second, third, answer)
	b.ok(b.Deliver(1))
	b.under(first, third, answer, answer)
	b.did(1)
	b.ok(b.Again(2))
	b.under(first, third, answer, answer)
	b.did(1, result(api.DidGet, 2, 6, dep(4, 0, 0), 0))
	b.ok(b.Drop(0))
	b.under(third, answer, answer)
	b.did(0)
	b.ok(b.Retry(1))
	b.under(third, answer, answer, first)
	b.ok(b.Drop(1), b.Drop(1), b.Drop(1), b.Drop(0))
	b.under()
}

// TestValues at the ends of what a number can be.
func TestValues(t *testing.T) {
	for _, value := range []int{0, 1, -1, math.MaxInt, math.MinInt} {
		b := newBench(t, config(2, 1, 1), 0, 1)
		b.ok(b.Put(0, 0, value), b.Deliver(0), b.Deliver(1), b.Deliver(0), b.Get(1, 0), b.Deliver(2), b.Deliver(2))
		b.did(0, result(api.DidPut, 1, 3, dep(0, 1, 0), value))
		b.did(1, result(api.DidGet, 5, 7, dep(0, 1, 0), value))
		b.has(1, 0, api.Stored{Version: version(1, 0), Value: value, Visible: 4})
	}
}
