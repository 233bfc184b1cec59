// Package session: what sessions do.
package session

import (
	"slices"
	"sync/atomic"

	"antiphon/api"
	"antiphon/node"
	"antiphon/past"
	"antiphon/plan"
)

// Session in a centre.
type Session struct {
	node.Node
	plan    plan.Plan
	centre  int
	context []api.Dep
	ops     int        // how many operations began
	current *operation // nil: the last one is done
	results []api.Result
}

// New makes a session that has seen nothing yet.
func New(p plan.Plan, number, centre int, steps *atomic.Int64, send func(api.Message)) *Session {
	return &Session{Node: node.New(p.Address(number), steps, send), plan: p, centre: centre}
}

// IsBusy tells whether the operation is not done.
func (s *Session) IsBusy() bool {
	return s.current != nil
}

// Put begins to put a value. The session must not be busy.
func (s *Session) Put(key, value int) {
	s.begin(api.DidPut, api.Message{Kind: api.Put, Key: key, Value: value, Past: s.context})
}

// Get begins to get a value. The session must not be busy.
func (s *Session) Get(key int) {
	s.begin(api.DidGet, api.Message{Kind: api.Get, Key: key})
}

// Trans begins to get several values together. The session must not be busy.
func (s *Session) Trans(keys ...int) {
	var questions []api.Message
	for _, key := range keys {
		questions = append(questions, api.Message{Kind: api.Get, Key: key})
	}
	s.begin(api.DidTrans, questions...)
}

func (s *Session) begin(kind int, questions ...api.Message) {
	s.ops++
	s.current = &operation{kind: kind, begun: s.Now(), places: make([]place, len(questions))}
	for index, question := range questions {
		s.ask(index, question)
	}
}

func (s *Session) ask(index int, question api.Message) {
	question.Op = s.ops
	question.Index = index
	question.To = s.plan.Home(s.centre, question.Key)
	s.current.places[index].question = question
	s.Send(question)
}

// Retry sends again what was not answered.
func (s *Session) Retry() {
	if !s.IsBusy() {
		return
	}
	for _, p := range s.current.places {
		if !p.isAnswered() {
			s.Send(p.question)
		}
	}
}

// Receive a message. Answers to other operations, or that came already, are
// passed over, but for the clock.
func (s *Session) Receive(m api.Message) {
	s.Hear(m)
	if s.IsBusy() && m.Op == s.ops {
		s.current.take(m)
		s.goOn()
	}
}

func (s *Session) goOn() {
	if s.current.isAnswered() && s.current.mayFetch() {
		s.fetch()
	}
	if s.current.isAnswered() {
		s.finish()
	}
}

// fetch what is wanted where less came.
func (s *Session) fetch() {
	s.current.hasFetched = true
	wanted := s.current.wanted()
	for index, p := range s.current.places {
		version := past.Of(wanted, p.question.Key)
		if past.Greater(version, p.answer.Version) {
			s.ask(index, api.Message{Kind: api.Fetch, Key: p.question.Key, Version: version})
		}
	}
}

func (s *Session) finish() {
	for _, p := range s.current.places {
		s.learn(p.answer)
	}
	s.results = append(s.results, s.current.result(s.Now()))
	s.current = nil
}

func (s *Session) learn(m api.Message) {
	if m.Settled || m.Version == (api.Version{}) {
		return
	}
	s.context = past.Join(s.context, m.Past...)
	s.context = past.Join(s.context, api.Dep{Key: m.Key, Version: m.Version})
}

// Horizon is the step in which a Trans began that is not done yet; or now, if
// there is none.
func (s *Session) Horizon() int {
	if s.IsBusy() && s.current.kind == api.DidTrans {
		return s.current.begun
	}
	return s.Now()
}

// Context tells what the session has put or seen, and the past of that.
func (s *Session) Context() []api.Dep {
	return slices.Clone(s.context)
}

// Results of the operations that are done, in order.
func (s *Session) Results() []api.Result {
	all := slices.Clone(s.results)
	for i, r := range all {
		all[i].Keys = slices.Clone(r.Keys)
		all[i].Versions = slices.Clone(r.Versions)
		all[i].Values = slices.Clone(r.Values)
	}
	return all
}
