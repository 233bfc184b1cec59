package session

import (
	"antiphon/api"
	"antiphon/past"
)

// operation that is not done yet.
type operation struct {
	kind, begun int
	places      []place
	hasFetched  bool // a Trans asks for what is wanted but once
}

// place of an operation: what was asked for it last, and what came last.
type place struct {
	question, answer api.Message
}

// awaits tells the kind of the answer: it stands behind that of its question.
func (p *place) awaits() int {
	return p.question.Kind + 1
}

func (p *place) isAnswered() bool {
	return p.answer.Kind == p.awaits()
}

func (p *place) take(m api.Message) {
	if p.isAnswered() || m.Kind != p.awaits() {
		return
	}
	if m.Kind == api.Putted {
		m.Value = p.question.Value
	}
	p.answer = m
}

func (p *place) isGone() bool {
	return p.answer.Kind == api.Fetched && p.answer.Version == (api.Version{})
}

// take an answer, if its place still waits for it.
func (o *operation) take(m api.Message) {
	if m.Index < len(o.places) {
		o.places[m.Index].take(m)
	}
}

// isAnswered tells whether all places are.
func (o *operation) isAnswered() bool {
	for _, p := range o.places {
		if !p.isAnswered() {
			return false
		}
	}
	return true
}

func (o *operation) mayFetch() bool {
	return o.kind == api.DidTrans && !o.hasFetched
}

// wanted has, of each key, the greatest version that came for it, or that is
// in the past of what came.
func (o *operation) wanted() []api.Dep {
	var all []api.Dep
	for _, p := range o.places {
		all = past.Join(all, api.Dep{Key: p.answer.Key, Version: p.answer.Version})
		if !p.answer.Settled {
			all = past.Join(all, p.answer.Past...)
		}
	}
	return all
}

func (o *operation) result(done int) api.Result {
	r := api.Result{Kind: o.kind, Begun: o.begun, Done: done}
	for _, p := range o.places {
		r.Keys = append(r.Keys, p.answer.Key)
		r.Versions = append(r.Versions, p.answer.Version)
		r.Values = append(r.Values, p.answer.Value)
		r.Gone = r.Gone || p.isGone()
	}
	return r
}
