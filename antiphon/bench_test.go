package antiphon_test

import (
	"fmt"
	"slices"
	"testing"

	"antiphon/antiphon"
	"antiphon/api"
)

// bench has a cluster, and how many there are of all that can be asked for.
type bench struct {
	t *testing.T
	*antiphon.Cluster
	config   api.Config
	sessions int
}

// newBench opens a session in each of these centres.
func newBench(t *testing.T, c api.Config, centres ...int) *bench {
	t.Helper()
	x, e := antiphon.New(c)
	if x == nil || e != api.OK {
		t.Fatalf("P4: New(%+v) = %v, %d", c, x, e)
	}
	b := &bench{t: t, Cluster: x, config: c}
	for _, centre := range centres {
		b.open(centre)
	}
	return b
}

func config(centres, shards, keys int) api.Config {
	return api.Config{Centres: centres, Shards: shards, Keys: keys}
}

func (b *bench) open(centre int) {
	b.t.Helper()
	if n, e := b.Open(centre); n != b.sessions || e != api.OK {
		b.t.Fatalf("P4: Open(%d) = %d, %d, want %d", centre, n, e, b.sessions)
	}
	b.sessions++
}

func (b *bench) servers() int { return b.config.Centres * b.config.Shards }

func (b *bench) addresses() int { return b.servers() + b.sessions }

// ok: each of these calls was.
func (b *bench) ok(answers ...api.Errno) {
	b.t.Helper()
	for i, e := range answers {
		if e != api.OK {
			b.t.Fatalf("P6: call %d answered %d", i, e)
		}
	}
}

// under: these bytes are under way, and no others.
func (b *bench) under(want ...[]byte) {
	b.t.Helper()
	if got := b.bytes(); !slices.EqualFunc(got, want, slices.Equal) {
		b.t.Fatalf("P6: step %d: the bag has\n%v, want\n%v", b.Now(), got, want)
	}
}

func (b *bench) bytes() [][]byte {
	b.t.Helper()
	var all [][]byte
	for n := range b.Bag() {
		one, e := b.Peek(n)
		if e != api.OK {
			b.t.Fatalf("P7: Peek(%d) = %v, %d", n, one, e)
		}
		all = append(all, one)
	}
	return all
}

func (b *bench) results(session int) []api.Result {
	b.t.Helper()
	all, e := b.Results(session)
	if e != api.OK {
		b.t.Fatalf("P7: Results(%d) = %v, %d", session, all, e)
	}
	return all
}

func (b *bench) did(session int, want ...api.Result) {
	b.t.Helper()
	if got := b.results(session); fmt.Sprint(got) != fmt.Sprint(want) {
		b.t.Errorf("P7: step %d: Results(%d) =\n%+v, want\n%+v", b.Now(), session, got, want)
	}
}

func (b *bench) context(session int) []api.Dep {
	b.t.Helper()
	all, e := b.Context(session)
	if e != api.OK {
		b.t.Fatalf("P7: Context(%d) = %v, %d", session, all, e)
	}
	return all
}

func (b *bench) knows(session int, want ...api.Dep) {
	b.t.Helper()
	if got := b.context(session); !slices.Equal(got, want) {
		b.t.Errorf("P7: step %d: Context(%d) = %v, want %v", b.Now(), session, got, want)
	}
}

func (b *bench) stored(server, key int) []api.Stored {
	b.t.Helper()
	all, e := b.Stored(server, key)
	if e != api.OK {
		b.t.Fatalf("P7: Stored(%d, %d) = %v, %d", server, key, all, e)
	}
	return all
}

func (b *bench) has(server, key int, want ...api.Stored) {
	b.t.Helper()
	if got := b.stored(server, key); fmt.Sprint(got) != fmt.Sprint(want) {
		b.t.Errorf("P7: step %d: Stored(%d, %d) =\n%+v, want\n%+v", b.Now(), server, key, got, want)
	}
}

// all goes through what every server stores of each of its keys.
func (b *bench) all(do func(server, key int, stored []api.Stored)) {
	b.t.Helper()
	for server := range b.servers() {
		for key := range b.config.Keys {
			if key%b.config.Shards == server%b.config.Shards {
				do(server, key, b.stored(server, key))
			}
		}
	}
}

// picture of all that can be seen of the cluster.
func (b *bench) picture() string {
	b.t.Helper()
	text := fmt.Sprint(b.Now(), b.bytes())
	b.all(func(server, key int, stored []api.Stored) { text += fmt.Sprint(server, key, stored) })
	for session := range b.sessions {
		text += fmt.Sprint(session, b.results(session), b.context(session))
	}
	return text
}

func version(clock, server int) api.Version { return api.Version{Clock: clock, Server: server} }

func dep(key, clock, server int) api.Dep { return api.Dep{Key: key, Version: version(clock, server)} }

func result(kind, begun, done int, d api.Dep, value int) api.Result {
	return api.Result{Kind: kind, Begun: begun, Done: done, Keys: []int{d.Key}, Versions: []api.Version{d.Version}, Values: []int{value}}
}

func results(kind, begun, done int, deps []api.Dep, values ...int) api.Result {
	r := api.Result{Kind: kind, Begun: begun, Done: done, Values: values}
	for _, d := range deps {
		r.Keys = append(r.Keys, d.Key)
		r.Versions = append(r.Versions, d.Version)
	}
	return r
}
