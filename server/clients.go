package server

import "antiphon/api"

func (s *Server) put(m api.Message) {
	last := s.puts[m.From]
	if m.Op < last.op {
		return
	}
	if m.Op > last.op {
		last = lastPut{op: m.Op, version: s.accept(m)}
		s.puts[m.From] = last
	}
	s.Send(api.Message{Kind: api.Putted, To: m.From, Op: m.Op, Key: m.Key, Version: last.version})
}

// accept a new write. Nobody can have asked for it yet, nor need it, and this
// server tells itself nothing: so no more is done for it to become visible.
func (s *Server) accept(m api.Message) api.Version {
	w := s.keep(api.Version{Clock: s.Tick(), Server: s.Address()}, m)
	s.show(w)
	s.sendCopies(w)
	if s.plan.Centres == 1 {
		w.Everywhere = s.Now()
	}
	return w.Version
}

func (s *Server) get(m api.Message) {
	s.answer(api.Got, m, s.latest[m.Key])
}

func (s *Server) fetch(m api.Message) {
	s.answer(api.Fetched, m, s.visible(m.Version))
}

// answer a question for a write; nil: version none.
func (s *Server) answer(kind int, m api.Message, w *write) {
	a := api.Message{Kind: kind, To: m.From, Op: m.Op, Index: m.Index, Key: m.Key}
	if w != nil {
		a.Version, a.Value, a.Past, a.Settled = w.Version, w.Value, w.Past, w.Settled
	}
	s.Send(a)
}
