// Package node: what servers and sessions have in common: an address, a
// clock, and a way to send.
package node

import (
	"sync/atomic"

	"antiphon/api"
)

// Node at an address.
type Node struct {
	address, clock int
	steps          *atomic.Int64
	send           func(api.Message)
}

// New makes a node whose clock is 0. It counts no steps itself: who does a
// step has counted it. Lists in what it hands to send stay its own.
func New(address int, steps *atomic.Int64, send func(api.Message)) Node {
	return Node{address: address, steps: steps, send: send}
}

func (n *Node) Address() int {
	return n.address
}

// Now tells the number of the step that is being done.
func (n *Node) Now() int {
	return int(n.steps.Load())
}

// Hear raises the clock to that of a message that is received.
func (n *Node) Hear(m api.Message) {
	n.clock = max(n.clock, m.Clock)
}

// Tick makes the clock one more, and tells it.
func (n *Node) Tick() int {
	n.clock++
	return n.clock
}

// Send a message: who sends it, and the clock, are written here.
func (n *Node) Send(m api.Message) {
	m.From = n.address
	m.Clock = n.clock
	n.send(m)
}
