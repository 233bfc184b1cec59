package wire

import (
	"math"

	"antiphon/api"
)

// notEncoded is the panic by which a reader gives up. It is a type of its
// own, so that no fault of the program is taken for wrong bytes.
type notEncoded struct{}

func giveUp() {
	panic(notEncoded{})
}

func readMessage(b []byte) (m api.Message, e api.Errno) {
	defer func() {
		fault := recover()
		if fault == nil {
			return
		}
		if _, own := fault.(notEncoded); !own {
			panic(fault)
		}
		m, e = api.Message{}, api.ErrForm
	}()
	r := reader{rest: b}
	m = r.message()
	r.end()
	return m, api.OK
}

// reader takes bytes off the front of rest, and gives up at the first thing
// that Encode would not have written.
type reader struct {
	rest []byte
}

func (r *reader) message() api.Message {
	m := api.Message{}
	m.Kind = r.kind()
	m.From = r.number()
	m.To = r.number()
	m.Clock = r.number()
	kind := fieldsOf[m.Kind]
	if kind.has(opField) {
		m.Op = r.number()
	}
	if kind.has(indexField) {
		m.Index = r.number()
	}
	if kind.has(keyField) {
		m.Key = r.number()
	}
	if kind.has(versionField) {
		m.Version = r.version()
	}
	if kind.has(forField) {
		m.For = r.dep()
	}
	if kind.has(valueField) {
		m.Value = r.value()
	}
	if kind.has(pastField) {
		m.Past = r.past()
	}
	if kind.has(settledField) {
		m.Settled = r.flag()
	}
	return m
}

func (r *reader) end() {
	if len(r.rest) > 0 {
		giveUp()
	}
}

func (r *reader) kind() int {
	kind := int(r.next())
	if !isKind(kind) {
		giveUp()
	}
	return kind
}

// past looks at the count first, so that no bytes, however many they are,
// make it gather more than a message can have.
func (r *reader) past() []api.Dep {
	count := r.number()
	if count > api.MaxPast {
		giveUp()
	}
	var past []api.Dep
	for range count {
		past = append(past, r.dep())
	}
	if !isPast(past) {
		giveUp()
	}
	return past
}

func (r *reader) dep() api.Dep {
	key := r.number()
	version := r.version()
	return api.Dep{Key: key, Version: version}
}

func (r *reader) version() api.Version {
	clock := r.number()
	server := r.number()
	return api.Version{Clock: clock, Server: server}
}

func (r *reader) value() int {
	n := r.varint()
	half := toInt(n >> 1)
	if n&1 == 1 {
		return ^half
	}
	return half
}

func (r *reader) flag() bool {
	n := r.varint()
	if n > 1 {
		giveUp()
	}
	return n == 1
}

func (r *reader) number() int {
	return toInt(r.varint())
}

func toInt(n uint64) int {
	if n > math.MaxInt {
		giveUp()
	}
	return int(n)
}

func (r *reader) next() byte {
	if len(r.rest) == 0 {
		giveUp()
	}
	b := r.rest[0]
	r.rest = r.rest[1:]
	return b
}
