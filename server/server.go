// Package server: what servers do.
package server

import (
	"slices"
	"sync/atomic"

	"antiphon/api"
	"antiphon/node"
	"antiphon/plan"
)

// Server of a shard in a centre.
type Server struct {
	node.Node
	plan plan.Plan

	reached map[api.Version]*write // but what was swept away
	order   []*write               // the same, as it came
	latest  map[int]*write         // by keys
	swept   map[api.Version]struct{}

	waiting map[api.Version][]waiter // who asked for what is not visible here yet
	needing map[api.Version][]*write // pending ones here that need what lives here, as they came
	puts    map[int]lastPut          // by the sessions' addresses
}

// lastPut of a session here.
type lastPut struct {
	op      int
	version api.Version
}

// New makes a server that nothing has reached yet.
func New(p plan.Plan, number int, steps *atomic.Int64, send func(api.Message)) *Server {
	return &Server{
		Node:    node.New(number, steps, send),
		plan:    p,
		reached: map[api.Version]*write{},
		latest:  map[int]*write{},
		swept:   map[api.Version]struct{}{},
		waiting: map[api.Version][]waiter{},
		needing: map[api.Version][]*write{},
		puts:    map[int]lastPut{},
	}
}

// Receive a message.
func (s *Server) Receive(m api.Message) {
	s.Hear(m)
	s.do(m)
}

// Retry sends again what may have been lost.
func (s *Server) Retry() {
	for w := range s.writes() {
		switch {
		case w.Version.Server == s.Address():
			s.sendCopies(w)
		case w.isPending():
			s.sendNeeds(w)
		case w.Everywhere == 0:
			s.sendSeen(w)
		}
	}
}

// Stored tells what reached the server of a key, and was not swept away.
func (s *Server) Stored(key int) []api.Stored {
	var all []api.Stored
	for w := range s.writes() {
		if w.key != key {
			continue
		}
		one := w.Stored
		one.Past = slices.Clone(w.Past)
		all = append(all, one)
	}
	return all
}
