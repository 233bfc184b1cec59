package server

import (
	"slices"

	"antiphon/api"
	"antiphon/past"
)

// waiter is a server that asked, and the pending one there for which it did.
type waiter struct {
	server int
	pends  api.Dep
}

// findNeeds of a pending one that has just come.
func (s *Server) findNeeds(w *write) {
	for _, d := range w.Past {
		if !s.livesHere(d.Key) {
			w.needs = append(w.needs, d)
		} else if !s.wasVisible(d.Version) {
			w.needs = append(w.needs, d)
			s.needing[d.Version] = append(s.needing[d.Version], w)
		}
	}
}

func (s *Server) livesHere(key int) bool {
	return s.plan.LivesOn(key, s.Address())
}

// sendNeeds asks other shards; what lives here is not asked for.
func (s *Server) sendNeeds(w *write) {
	centre := s.plan.Centre(s.Address())
	for _, d := range w.needs {
		if !s.livesHere(d.Key) {
			s.Send(api.Message{Kind: api.Need, To: s.plan.Home(centre, d.Key), Key: d.Key, Version: d.Version, For: w.name()})
		}
	}
}

func (s *Server) need(m api.Message) {
	who := waiter{server: m.From, pends: m.For}
	if s.wasVisible(m.Version) {
		s.sendMet(who, api.Dep{Key: m.Key, Version: m.Version})
		return
	}
	if !slices.Contains(s.waiting[m.Version], who) {
		s.waiting[m.Version] = append(s.waiting[m.Version], who)
	}
}

func (s *Server) sendMet(who waiter, d api.Dep) {
	s.Send(api.Message{Kind: api.Met, To: who.server, Key: d.Key, Version: d.Version, For: who.pends})
}

func (s *Server) met(m api.Message) {
	w := s.reached[m.For.Version]
	if w == nil || !w.isPending() {
		return
	}
	w.needsNoMore(m.Version)
	if len(w.needs) == 0 {
		s.becomeVisible(w)
	}
}

// becomeVisible takes those that need nothing any more one behind the other:
// what one of them makes visible comes behind all that were there ahead of it.
func (s *Server) becomeVisible(w *write) {
	ready := []*write{w}
	for len(ready) > 0 {
		first := ready[0]
		s.show(first)
		s.sendSeen(first)
		s.meetWaiters(first)
		ready = append(ready[1:], s.release(first)...)
	}
}

// show makes a write visible, and sees which one is the latest then.
func (s *Server) show(w *write) {
	w.Visible = s.Now()
	old := s.latest[w.key]
	if old != nil && past.Greater(old.Version, w.Version) {
		w.Covered = s.Now()
		return
	}
	if old != nil {
		old.Covered = s.Now()
	}
	s.latest[w.key] = w
}

func (s *Server) meetWaiters(w *write) {
	for _, who := range s.waiting[w.Version] {
		s.sendMet(who, w.name())
	}
	delete(s.waiting, w.Version)
}

// release the pending ones here that need w; it answers those that need
// nothing now.
func (s *Server) release(w *write) []*write {
	var ready []*write
	for _, pending := range s.needing[w.Version] {
		pending.needsNoMore(w.Version)
		if len(pending.needs) == 0 {
			ready = append(ready, pending)
		}
	}
	delete(s.needing, w.Version)
	return ready
}
