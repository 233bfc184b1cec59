// Package session: what sessions do.
package session

import (
	"slices"
	"sync/atomic"

	"antiphon/api"
	"antiphon/node"
	"antiphon/past"
	"antiphon/plan"
)

// Session in a centre.
type Session struct {
	node.Node
	plan    plan.Plan
	centre  int
	context []api.Dep
	ops     int        // how many operations began
	current *operation // nil: the last one is done
	results []api.Result
}

// operation that is not done yet.
type operation struct {
	kind, begun int
	question    api.Message
}

// New makes a session that has seen nothing yet.
func New(p plan.Plan, number, centre int, steps *atomic.Int64, send func(api.Message)) *Session {
	return &Session{Node: node.New(p.Address(number), steps, send), plan: p, centre: centre}
}

// IsBusy tells whether the operation is not done.
func (s *Session) IsBusy() bool {
	return s.current != nil
}

// Put begins to put a value. The session must not be busy.
func (s *Session) Put(key, value int) {
	s.begin(api.DidPut, api.Message{Kind: api.Put, Key: key, Value: value, Past: s.context})
}

// Get begins to get a value. The session must not be busy.
func (s *Session) Get(key int) {
	s.begin(api.DidGet, api.Message{Kind: api.Get, Key: key})
}

func (s *Session) begin(kind int, question api.Message) {
	s.ops++
	question.Op = s.ops
	question.To = s.plan.Home(s.centre, question.Key)
	s.current = &operation{kind: kind, begun: s.Now(), question: question}
	s.Send(question)
}

// Retry sends again what was not answered.
func (s *Session) Retry() {
	if s.IsBusy() {
		s.Send(s.current.question)
	}
}

// Receive a message. Answers to other operations are passed over, but for
// the clock.
func (s *Session) Receive(m api.Message) {
	s.Hear(m)
	if !s.IsBusy() || m.Op != s.ops {
		return
	}
	switch m.Kind {
	case api.Putted:
		m.Value = s.current.question.Value
		s.finish(m)
	case api.Got:
		s.finish(m)
	}
}

func (s *Session) finish(m api.Message) {
	s.learn(m)
	s.results = append(s.results, api.Result{
		Kind:     s.current.kind,
		Begun:    s.current.begun,
		Done:     s.Now(),
		Keys:     []int{m.Key},
		Versions: []api.Version{m.Version},
		Values:   []int{m.Value},
	})
	s.current = nil
}

func (s *Session) learn(m api.Message) {
	if m.Settled || m.Version == (api.Version{}) {
		return
	}
	s.context = past.Join(s.context, m.Past...)
	s.context = past.Join(s.context, api.Dep{Key: m.Key, Version: m.Version})
}

// Context tells what the session has put or seen, and the past of that.
func (s *Session) Context() []api.Dep {
	return slices.Clone(s.context)
}

// Results of the operations that are done, in order.
func (s *Session) Results() []api.Result {
	all := slices.Clone(s.results)
	for i, r := range all {
		all[i].Keys = slices.Clone(r.Keys)
		all[i].Versions = slices.Clone(r.Versions)
		all[i].Values = slices.Clone(r.Values)
	}
	return all
}
