package server

import (
	"fmt"
	"sync/atomic"
	"testing"

	"antiphon/api"
	"antiphon/plan"
)

// deedBench: server 0 of two centres with two shards, on which something was
// put, something is visible, and something is pending. Its twin is 2.
func deedBench() (s *Server, sent *[]api.Message) {
	steps := new(atomic.Int64)
	sent = new([]api.Message)
	p := plan.Plan{Config: api.Config{Centres: 2, Shards: 2, Keys: 4}}
	s = New(p, 0, steps, func(m api.Message) { *sent = append(*sent, m) })
	other := api.Dep{Key: 1, Version: api.Version{Clock: 3, Server: 3}}
	for _, m := range []api.Message{
		{Kind: api.Put, From: 4, Op: 1, Key: 0, Value: 5},
		{Kind: api.Copy, From: 2, Clock: 2, Key: 0, Version: api.Version{Clock: 2, Server: 2}, Value: 6},
		{Kind: api.Copy, From: 2, Clock: 4, Key: 2, Version: api.Version{Clock: 4, Server: 2}, Value: 7, Past: []api.Dep{other}},
	} {
		steps.Add(1)
		s.Receive(m)
	}
	steps.Add(1)
	*sent = nil
	return s, sent
}

// deedMessages has, for each kind, one with which a server does something
// that it does with no other.
func deedMessages() [api.Everywhere + 1]api.Message {
	mine, theirs := api.Version{Clock: 1}, api.Version{Clock: 2, Server: 2}
	pends := api.Dep{Key: 2, Version: api.Version{Clock: 4, Server: 2}}
	return [...]api.Message{
		api.Put:        {From: 4, Op: 2, Key: 0, Value: 8},
		api.Putted:     {From: 2, Op: 2, Version: mine},
		api.Get:        {From: 4, Op: 2, Index: 1, Key: 0},
		api.Got:        {From: 2, Op: 2, Index: 1, Version: mine},
		api.Fetch:      {From: 4, Op: 2, Index: 1, Key: 0, Version: mine},
		api.Fetched:    {From: 2, Op: 2, Index: 1, Version: mine},
		api.Copy:       {From: 2, Key: 0, Version: api.Version{Clock: 9, Server: 2}, Value: 9},
		api.Kept:       {From: 2, Key: 0, Version: mine},
		api.Need:       {From: 1, Key: 0, Version: mine, For: pends},
		api.Met:        {From: 1, Key: 1, Version: api.Version{Clock: 3, Server: 3}, For: pends},
		api.Seen:       {From: 2, Key: 0, Version: mine},
		api.Everywhere: {From: 2, Key: 0, Version: theirs},
	}
}

// after tells all that can be seen of a server when it has done something.
func after(do func(s *Server)) string {
	s, sent := deedBench()
	do(s)
	s.Retry()
	return fmt.Sprintf("%+v %+v %+v", *sent, s.Stored(0), s.Stored(2))
}

// TestDeeds: the table and the function do the same with each kind, and each
// does something of its own with what is sent to servers.
func TestDeeds(t *testing.T) {
	nothing := after(func(*Server) {})
	done := map[string]int{}
	for kind, m := range deedMessages() {
		m.Kind = kind
		byFunction := after(func(s *Server) { s.do(m) })
		byTable := after(func(s *Server) {
			if deed := deeds[kind]; deed != nil {
				deed(s, m)
			}
		})
		if byFunction != byTable {
			t.Errorf("P6: kind %d: by the function\n%s, by the table\n%s", kind, byFunction, byTable)
		}
		if got := byFunction != nothing; got != isForServers(kind) {
			t.Errorf("P6: kind %d: something was done: %v", kind, got)
		}
		if other, was := done[byFunction]; was && isForServers(kind) {
			t.Errorf("P6: kinds %d and %d do the same", kind, other)
		}
		done[byFunction] = kind
	}
}

func TestIsReady(t *testing.T) {
	if !IsReady() {
		t.Error("P4: there are kinds for servers without a deed, or others with one")
	}
}
