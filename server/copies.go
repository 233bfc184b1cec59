package server

import "antiphon/api"

func (s *Server) sendCopies(w *write) {
	for twin := range s.plan.Twins(s.Address()) {
		if !w.kept[s.plan.Centre(twin)] {
			s.Send(api.Message{Kind: api.Copy, To: twin, Key: w.key, Version: w.Version, Value: w.Value, Past: w.Past})
		}
	}
}

func (s *Server) copy(m api.Message) {
	if s.hasReached(m.Version) {
		s.sendKept(m)
		return
	}
	w := s.keep(m.Version, m)
	s.findNeeds(w)
	s.sendNeeds(w)
	s.sendKept(m)
	if len(w.needs) == 0 {
		s.becomeVisible(w)
	}
}

func (s *Server) sendKept(m api.Message) {
	s.Send(api.Message{Kind: api.Kept, To: m.From, Key: m.Key, Version: m.Version})
}

func (s *Server) kept(m api.Message) {
	if w := s.reached[m.Version]; w != nil {
		w.kept[s.plan.Centre(m.From)] = true
	}
}

func (s *Server) sendSeen(w *write) {
	s.Send(api.Message{Kind: api.Seen, To: w.Version.Server, Key: w.key, Version: w.Version})
}

func (s *Server) seen(m api.Message) {
	w := s.reached[m.Version]
	if s.isSwept(m.Version) || w != nil && w.Everywhere != 0 {
		s.sendEverywhere(m.From, api.Dep{Key: m.Key, Version: m.Version})
		return
	}
	if w == nil {
		return
	}
	w.seen[s.plan.Centre(m.From)] = true
	if !s.isSeenByAll(w) {
		return
	}
	w.Everywhere = s.Now()
	for twin := range s.plan.Twins(s.Address()) {
		s.sendEverywhere(twin, w.name())
	}
}

func (s *Server) isSeenByAll(w *write) bool {
	for twin := range s.plan.Twins(s.Address()) {
		if !w.seen[s.plan.Centre(twin)] {
			return false
		}
	}
	return true
}

func (s *Server) sendEverywhere(to int, d api.Dep) {
	s.Send(api.Message{Kind: api.Everywhere, To: to, Key: d.Key, Version: d.Version})
}

func (s *Server) everywhere(m api.Message) {
	if w := s.visible(m.Version); w != nil && w.Everywhere == 0 {
		w.Everywhere = s.Now()
	}
}
