package antiphon

import "antiphon/api"

// party is who stands at an address: a server or a session.
type party interface {
	Receive(m api.Message)
	Retry()
}

// at an address that there is.
func (x *Cluster) at(address int) party {
	if x.plan.HasServer(address) {
		return x.servers[address]
	}
	return x.sessions[address-x.plan.Servers()]
}

func (x *Cluster) hasSession(session int) bool {
	return session >= 0 && session < len(x.sessions)
}

func (x *Cluster) hasAddress(address int) bool {
	return address >= 0 && address < x.plan.Address(len(x.sessions))
}

// step counts one that is being done from now on.
func (x *Cluster) step() {
	x.steps.Add(1)
}

// begin the step of an operation, if the session is free for it.
func (x *Cluster) begin(session, key int) api.Errno {
	if !x.hasSession(session) || !x.plan.HasKey(key) {
		return api.ErrArg
	}
	if x.sessions[session].IsBusy() {
		return api.ErrBusy
	}
	x.step()
	return api.OK
}
