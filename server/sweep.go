package server

import "antiphon/api"

// Sweep settles what is everywhere since a step below the horizon, and sweeps
// away what is covered besides since such a step: nobody can ask for it any
// more, as each Trans that is not done yet began behind that.
func (s *Server) Sweep(horizon int) {
	var left []*write
	for w := range s.writes() {
		if isBelow(horizon, w.Everywhere) {
			w.Settled, w.Past = true, nil
		}
		if w.Settled && isBelow(horizon, w.Covered) {
			s.sweepAway(w)
		} else {
			left = append(left, w)
		}
	}
	s.order = left
}

// isBelow tells whether something is so since a step below the horizon; 0: it
// is not so.
func isBelow(horizon, step int) bool {
	return step != 0 && step < horizon
}

// sweepAway leaves the name: others may still ask for it, or send it again.
func (s *Server) sweepAway(w *write) {
	delete(s.reached, w.Version)
	s.swept[w.Version] = struct{}{}
}

func (s *Server) isSwept(v api.Version) bool {
	_, swept := s.swept[v]
	return swept
}
