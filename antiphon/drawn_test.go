package antiphon_test

import (
	"fmt"
	"maps"
	"math/rand"
	"slices"
	"testing"

	"antiphon/api"
	"antiphon/wire"
)

// story is a cluster to which drawn things happen, and what is truly so of
// its sessions, worked out from what they put and saw alone.
type story struct {
	*bench
	draw     *rand.Rand
	known    []map[int]api.Version       // by sessions: all that was put or seen, with its true past
	pasts    map[int]map[int]api.Version // the true past of a write, by its value: each value is put once
	told     []int                       // by sessions: how many results were looked at
	received []bool                      // by places in the bag: whether it was received before
	sweeps   bool                        // whether servers are swept between the other things
	fetches  int                         // how often FETCH was received
	swept    int                         // how many sweeps took something away while a Trans was under way
}

func newStory(t *testing.T, seed int64) *story {
	draw := rand.New(rand.NewSource(seed))
	c := config(1+draw.Intn(3), 1+draw.Intn(3), 1+draw.Intn(6))
	s := &story{bench: newBench(t, c), draw: draw, pasts: map[int]map[int]api.Version{}, sweeps: draw.Intn(4) > 0}
	for range 1 + draw.Intn(api.MaxSessions) {
		s.open(draw.Intn(c.Centres))
		s.known = append(s.known, map[int]api.Version{})
		s.told = append(s.told, 0)
	}
	return s
}

func isLess(a, b api.Version) bool {
	return a.Clock < b.Clock || a.Clock == b.Clock && a.Server < b.Server
}

func learn(known map[int]api.Version, key int, v api.Version) {
	if isLess(known[key], v) {
		known[key] = v
	}
}

func (s *story) put() {
	session, value := s.draw.Intn(s.sessions), len(s.pasts)+1
	if s.Put(session, s.draw.Intn(s.config.Keys), value) == api.OK {
		s.pasts[value] = maps.Clone(s.known[session])
	}
}

// trans of keys of which some may stand there twice.
func (s *story) trans() {
	keys := make([]int, 1+s.draw.Intn(api.MaxTrans))
	for i := range keys {
		keys[i] = s.draw.Intn(s.config.Keys)
	}
	s.Trans(s.draw.Intn(s.sessions), keys...)
}

func (s *story) sweep() {
	if !s.sweeps {
		return
	}
	was := s.count()
	s.ok(s.Sweep(s.draw.Intn(s.servers())))
	if s.count() < was && s.isInTrans() {
		s.swept++
	}
}

// count what is stored.
func (s *story) count() int {
	many := 0
	s.all(func(server, key int, stored []api.Stored) { many += len(stored) })
	return many
}

// isInTrans tells whether something that a Trans asked, or its answer, is
// under way: no GET of another place than 0 is of a Get.
func (s *story) isInTrans() bool {
	for _, one := range s.bytes() {
		if m, _ := wire.Decode(one); m.Index > 0 {
			return true
		}
	}
	return false
}

// receive one, by Deliver or by Again. One that was received before must
// change nothing that is stored or known (P12).
func (s *story) receive(stays bool) {
	n := s.draw.Intn(s.Bag())
	if !s.received[n] {
		s.receiveAt(n, stays)
		return
	}
	was := s.kept()
	s.receiveAt(n, stays)
	if now := s.kept(); now != was {
		s.t.Fatalf("P12: step %d changed\n%s, to\n%s", s.Now(), was, now)
	}
}

func (s *story) receiveAt(n int, stays bool) {
	if one, _ := s.Peek(n); one[0] == api.Fetch {
		s.fetches++
	}
	if stays {
		s.ok(s.Again(n))
		s.received[n] = true
		return
	}
	s.ok(s.Deliver(n))
	s.received = slices.Delete(s.received, n, n+1)
}

// kept is all that can be seen, but for the steps and what is under way.
func (s *story) kept() string {
	var text string
	s.all(func(server, key int, stored []api.Stored) { text += fmt.Sprint(server, key, stored) })
	for session := range s.sessions {
		text += fmt.Sprint(s.results(session), s.context(session))
	}
	return text
}

func (s *story) drop() {
	n := s.draw.Intn(s.Bag())
	s.ok(s.Drop(n))
	s.received = slices.Delete(s.received, n, n+1)
}

func (s *story) goOn() {
	switch k := s.draw.Intn(24); {
	case k < 3:
		s.put()
	case k < 5:
		s.Get(s.draw.Intn(s.sessions), s.draw.Intn(s.config.Keys))
	case k < 8:
		s.trans()
	case k < 10:
		s.sweep()
	case k == 10:
		s.ok(s.Retry(s.draw.Intn(s.addresses())))
	case s.Bag() == 0:
	case k == 11:
		s.drop()
	default:
		s.receive(k < 14)
	}
	s.look()
}

// look at what is new: P8 to P10, and that contexts are what is truly known.
func (s *story) look() {
	s.received = append(s.received, make([]bool, s.Bag()-len(s.received))...)
	for session, known := range s.known {
		all := s.results(session)
		for _, r := range all[s.told[session]:] {
			s.checkKnown(session, r)
			s.checkTogether(r)
			for i, key := range r.Keys {
				for k, v := range s.pasts[r.Values[i]] {
					learn(known, k, v)
				}
				learn(known, key, r.Versions[i])
			}
		}
		s.told[session] = len(all)
		s.checkContext(session)
	}
}

// checkKnown: nothing is less than what the session had put or seen (P8).
func (s *story) checkKnown(session int, r api.Result) {
	for i, key := range r.Keys {
		if isLess(r.Versions[i], s.known[session][key]) {
			s.t.Fatalf("P8: session %d: %+v, known %v", session, r, s.known[session])
		}
	}
}

// checkTogether: nothing is gone (P10), nothing is less than the true past of
// something beside it (P9), and a key that stands there twice is the same.
func (s *story) checkTogether(r api.Result) {
	if r.Gone {
		s.t.Fatalf("P10: %+v", r)
	}
	if r.Kind != api.DidTrans {
		return
	}
	for i, key := range r.Keys {
		for j, other := range r.Keys {
			if isLess(r.Versions[i], s.pasts[r.Values[j]][key]) || key == other && r.Versions[i] != r.Versions[j] {
				s.t.Fatalf("P9: %+v: places %d and %d, of a past %v", r, i, j, s.pasts[r.Values[j]])
			}
		}
	}
}

// checkContext: it has what is truly known, but for what was settled: that
// must be seen in all centres, or something greater.
func (s *story) checkContext(session int) {
	known := s.known[session]
	context := map[int]api.Version{}
	for _, d := range s.context(session) {
		context[d.Key] = d.Version
		if isLess(known[d.Key], d.Version) {
			s.t.Fatalf("P7: step %d: Context(%d) has %v, known is %v", s.Now(), session, d, known)
		}
	}
	for key, v := range known {
		if v == context[key] || v == (api.Version{}) {
			continue
		}
		if !s.sweeps {
			s.t.Fatalf("P7: step %d: Context(%d) = %v, known is %v", s.Now(), session, context, known)
		}
		for centre := range s.config.Centres {
			if isLess(s.latest(centre*s.config.Shards+key%s.config.Shards, key), v) {
				s.t.Fatalf("P7: step %d: Context(%d) = %v, known is %v, not seen in centre %d", s.Now(), session, context, known, centre)
			}
		}
	}
}

// latest version of a key that is visible on a server.
func (s *story) latest(server, key int) api.Version {
	var greatest api.Version
	for _, w := range s.stored(server, key) {
		if w.Visible > 0 && isLess(greatest, w.Version) {
			greatest = w.Version
		}
	}
	return greatest
}

// end: all that was lost is sent again, and all comes.
func (s *story) end() {
	for range 3 {
		for address := range s.addresses() {
			s.ok(s.Retry(address))
			s.look()
		}
		for s.Bag() > 0 {
			s.receive(false)
			s.look()
		}
	}
	for address := range s.addresses() {
		s.ok(s.Retry(address))
	}
	if s.Bag() != 0 {
		s.t.Errorf("P11: there is no rest: %v", s.bytes())
	}
}

// checkEnd: P11, and that each centre has all that any has, if nothing was
// swept away.
func (s *story) checkEnd() {
	for key := range s.config.Keys {
		var first []string
		var latest api.Version
		for centre := range s.config.Centres {
			names, greatest := s.checkVisible(centre*s.config.Shards+key%s.config.Shards, key)
			if centre == 0 {
				first, latest = names, greatest
			}
			if greatest != latest || !s.sweeps && !slices.Equal(names, first) {
				s.t.Errorf("P11: key %d: centre %d has %v, %v, centre 0 has %v, %v", key, centre, greatest, names, latest, first)
			}
		}
	}
}

// checkVisible answers what a server has of a key, sorted, and its greatest.
func (s *story) checkVisible(server, key int) (names []string, greatest api.Version) {
	all := s.stored(server, key)
	for _, w := range all {
		if isLess(greatest, w.Version) {
			greatest = w.Version
		}
		names = append(names, fmt.Sprint(w.Version, w.Value, w.Past))
	}
	for _, w := range all {
		if w.Visible == 0 || w.Everywhere == 0 || (w.Covered == 0) != (w.Version == greatest) {
			s.t.Errorf("P11: server %d, key %d: %+v, the greatest is %v", server, key, w, greatest)
		}
	}
	slices.Sort(names)
	return names, greatest
}

// checkSwept: at rest a Sweep leaves of each key the latest one alone, settled.
func (s *story) checkSwept() {
	latest := map[[2]int]api.Version{}
	s.all(func(server, key int, stored []api.Stored) { latest[[2]int{server, key}] = s.latest(server, key) })
	for server := range s.servers() {
		s.ok(s.Sweep(server))
	}
	s.all(func(server, key int, stored []api.Stored) {
		v := latest[[2]int{server, key}]
		if v == (api.Version{}) && len(stored) == 0 {
			return
		}
		if len(stored) != 1 || stored[0].Version != v || !stored[0].Settled || len(stored[0].Past) != 0 || stored[0].Covered != 0 {
			s.t.Errorf("P6: Stored(%d, %d) = %+v, the latest is %v", server, key, stored, v)
		}
	})
}

// TestDrawn: messages late, twice, in any order and lost, with sweeps between
// them.
func TestDrawn(t *testing.T) {
	fetches, swept := 0, 0
	for seed := range int64(150) {
		s := newStory(t, seed)
		for range 300 {
			s.goOn()
		}
		s.end()
		s.checkEnd()
		s.checkSwept()
		if t.Failed() {
			t.Fatalf("in the story of %d, with %+v", seed, s.config)
		}
		fetches += s.fetches
		swept += s.swept
	}
	if fetches == 0 || swept == 0 {
		t.Errorf("P9: of no use: %d were fetched, %d sweeps took something away under a Trans", fetches, swept)
	}
}

// TestSameStory: what was done with a cluster is all that its answers depend on.
func TestSameStory(t *testing.T) {
	for seed := range int64(20) {
		one, other := newStory(t, seed), newStory(t, seed)
		between := newStory(t, seed+1000)
		for range 150 {
			one.goOn()
			between.goOn()
			other.goOn()
		}
		if one.picture() != other.picture() {
			t.Fatalf("P2: the same was done, and there is\n%s, and\n%s", one.picture(), other.picture())
		}
	}
}

// TestAllLost: whatever a step sends is lost at first, and sent again.
func TestAllLost(t *testing.T) {
	b := newBench(t, config(3, 2, 2), 0, 1, 2)
	lose := func() {
		for b.Bag() > 0 {
			b.ok(b.Drop(0))
		}
	}
	again := func(address int) {
		lose()
		b.ok(b.Retry(address))
	}
	finish := func(session int) {
		many := len(b.results(session))
		again(6 + session) // PUT
		b.ok(b.Deliver(0))
		again(6 + session) // for PUTTED
		b.ok(b.Deliver(0), b.Deliver(b.Bag()-1))
		if len(b.results(session)) != many+1 {
			t.Fatalf("P12: %d operations are done, want %d", len(b.results(session)), many+1)
		}
	}
	b.ok(b.Put(0, 0, 7))
	finish(0)
	b.ok(b.Put(0, 1, 8))
	finish(0)
	for range 3 { // what is sent again comes, and all that it makes others send is lost
		for address := range b.servers() {
			again(address)
			for range b.Bag() {
				b.ok(b.Deliver(0))
			}
		}
	}
	b.has(3, 1, api.Stored{Version: version(2, 1), Value: 8, Past: []api.Dep{dep(0, 1, 0)}})
	for range 2 {
		for address := range b.servers() {
			b.ok(b.Retry(address))
		}
		for b.Bag() > 0 {
			b.ok(b.Deliver(0))
		}
	}
	b.all(func(server, key int, stored []api.Stored) {
		if len(stored) != 1 || stored[0].Visible == 0 || stored[0].Everywhere == 0 || stored[0].Value != 7+key {
			t.Errorf("P12: Stored(%d, %d) = %+v", server, key, stored)
		}
	})
}
