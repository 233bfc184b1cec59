package server

import (
	"iter"
	"slices"

	"antiphon/api"
)

// write is a version that reached a server.
type write struct {
	api.Stored
	key   int
	needs []api.Dep // by keys; of a pending one alone

	// Of one that was put here: which centres sent KEPT, and which SEEN.
	kept, seen [api.MaxCentres]bool
}

func (w *write) isPending() bool {
	return w.Visible == 0
}

// name tells the key and the version.
func (w *write) name() api.Dep {
	return api.Dep{Key: w.key, Version: w.Version}
}

func (w *write) needsNoMore(v api.Version) {
	w.needs = slices.DeleteFunc(w.needs, func(d api.Dep) bool { return d.Version == v })
}

// keep what has reached the server now, as a pending one.
func (s *Server) keep(v api.Version, m api.Message) *write {
	w := &write{
		Stored: api.Stored{Version: v, Value: m.Value, Past: slices.Clone(m.Past)},
		key:    m.Key,
	}
	s.reached[v] = w
	s.order = append(s.order, w)
	return w
}

// writes goes through what reached the server and was not swept away, in the
// order in which it came.
func (s *Server) writes() iter.Seq[*write] {
	return func(yield func(*write) bool) {
		for _, w := range s.order {
			if !yield(w) {
				return
			}
		}
	}
}

// hasReached tells also of what was swept away.
func (s *Server) hasReached(v api.Version) bool {
	return s.reached[v] != nil || s.isSwept(v)
}

// visible answers the write of a version, or nil, if it is not visible here.
func (s *Server) visible(v api.Version) *write {
	if w := s.reached[v]; w != nil && !w.isPending() {
		return w
	}
	return nil
}

// wasVisible tells whether a version is visible here, or was and has been
// swept away.
func (s *Server) wasVisible(v api.Version) bool {
	return s.visible(v) != nil || s.isSwept(v)
}
