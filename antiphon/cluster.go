package antiphon

import "antiphon/api"

// party is who stands at an address: a server or a session.
type party interface {
	Receive(m api.Message)
	Retry()
}

// at an address that there is.
func (x *Cluster) at(address int) party {
	if x.plan.HasServer(address) {
		return x.servers[address]
	}
	return x.sessions[address-x.plan.Servers()]
}

func (x *Cluster) hasSession(session int) bool {
	return session >= 0 && session < len(x.sessions)
}

func (x *Cluster) hasAddress(address int) bool {
	return address >= 0 && address < x.plan.Address(len(x.sessions))
}

// step counts one that is being done from now on.
func (x *Cluster) step() {
	x.steps.Add(1)
}

// begin the step of an operation, if the session is free for it.
func (x *Cluster) begin(session int, keys ...int) api.Errno {
	if !x.hasSession(session) || !x.hasAll(keys) {
		return api.ErrArg
	}
	if x.sessions[session].IsBusy() {
		return api.ErrBusy
	}
	x.step()
	return api.OK
}

// hasAll tells whether these are as many keys as an operation may have, and
// there are all of them.
func (x *Cluster) hasAll(keys []int) bool {
	if len(keys) < 1 || len(keys) > api.MaxTrans {
		return false
	}
	for _, key := range keys {
		if !x.plan.HasKey(key) {
			return false
		}
	}
	return true
}

// horizon of a Sweep that is being done: no Trans that is not done yet began
// ahead of it.
func (x *Cluster) horizon() int {
	least := x.Now()
	for _, s := range x.sessions {
		least = min(least, s.Horizon())
	}
	return least
}
