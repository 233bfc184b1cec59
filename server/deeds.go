package server

import "antiphon/api"

// do what a server does with a message. A kind that nobody sends to servers
// is passed over.
func (s *Server) do(m api.Message) {
	switch m.Kind {
	case api.Put:
		s.put(m)
	case api.Get:
		s.get(m)
	case api.Fetch:
		s.fetch(m)
	case api.Copy:
		s.copy(m)
	case api.Kept:
		s.kept(m)
	case api.Need:
		s.need(m)
	case api.Met:
		s.met(m)
	case api.Seen:
		s.seen(m)
	case api.Everywhere:
		s.everywhere(m)
	}
}

// deeds has the same as do, by kinds: the document's section 'Ways' asks for
// such a table, made at start-up. What servers do hangs on do alone; a test
// holds the two together.
var deeds = makeDeeds()

func makeDeeds() [api.Everywhere + 1]func(*Server, api.Message) {
	return [...]func(*Server, api.Message){
		api.Put:        (*Server).put,
		api.Get:        (*Server).get,
		api.Fetch:      (*Server).fetch,
		api.Copy:       (*Server).copy,
		api.Kept:       (*Server).kept,
		api.Need:       (*Server).need,
		api.Met:        (*Server).met,
		api.Seen:       (*Server).seen,
		api.Everywhere: (*Server).everywhere,
	}
}

// IsReady tells whether start-up has made the table whole. It has, ahead of
// any call, so this never fails. Who makes servers asks all the same: that is
// the one place where a call reads the table, which nothing else has a use for,
// and a gap in it would be seen there at once.
func IsReady() bool {
	for kind, deed := range deeds {
		if isForServers(kind) != (deed != nil) {
			return false
		}
	}
	return true
}

// isForServers tells whether servers are sent a kind of message. What answers
// a session is for sessions alone, and there is no kind 0.
func isForServers(kind int) bool {
	switch kind {
	case 0, api.Putted, api.Got, api.Fetched:
		return false
	}
	return true
}
