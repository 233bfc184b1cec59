package antiphon

import (
	"slices"

	"antiphon/api"
	"antiphon/wire"
)

// bag holds what is under way, as bytes, so that nobody who receives it
// shares memory with whoever sent it.
type bag struct {
	messages [][]byte
}

// send puts a message behind all others. What servers and sessions send can
// always be encoded, and so what is in the bag decoded.
func (b *bag) send(m api.Message) {
	bytes, _ := wire.Encode(m)
	b.messages = append(b.messages, bytes)
}

func (b *bag) has(n int) bool {
	return n >= 0 && n < len(b.messages)
}

func (b *bag) message(n int) api.Message {
	m, _ := wire.Decode(b.messages[n])
	return m
}

func (b *bag) remove(n int) {
	b.messages = slices.Delete(b.messages, n, n+1)
}
