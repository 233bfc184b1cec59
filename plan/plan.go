// Package plan: which servers there are, and which keys live on them.
package plan

import (
	"iter"

	"antiphon/api"
)

// Plan of a cluster whose config fits.
type Plan struct {
	api.Config
}

// Fits tells whether c is a config.
func Fits(c api.Config) bool {
	return isFromOneTo(api.MaxCentres, c.Centres) && isFromOneTo(api.MaxShards, c.Shards) && isFromOneTo(api.MaxKeys, c.Keys)
}

func isFromOneTo(most, n int) bool {
	return n >= 1 && n <= most
}

// Servers tells how many there are in all centres.
func (p Plan) Servers() int {
	return p.Centres * p.Shards
}

// Address of a session: they stand behind all servers.
func (p Plan) Address(session int) int {
	return p.Servers() + session
}

func (p Plan) HasCentre(centre int) bool {
	return isBelow(p.Centres, centre)
}

func (p Plan) HasServer(server int) bool {
	return isBelow(p.Servers(), server)
}

func (p Plan) HasKey(key int) bool {
	return isBelow(p.Keys, key)
}

func isBelow(many, n int) bool {
	return n >= 0 && n < many
}

// Centre in which a server stands.
func (p Plan) Centre(server int) int {
	return server / p.Shards
}

// Home of a key in a centre: the server on which it lives there.
func (p Plan) Home(centre, key int) int {
	return centre*p.Shards + key%p.Shards
}

// LivesOn tells whether a key lives on a server.
func (p Plan) LivesOn(key, server int) bool {
	return p.Home(p.Centre(server), key) == server
}

// Twins of a server: those of its shard in each other centre, by their numbers.
func (p Plan) Twins(server int) iter.Seq[int] {
	return func(yield func(int) bool) {
		for twin := server % p.Shards; twin < p.Servers(); twin += p.Shards {
			if twin != server && !yield(twin) {
				return
			}
		}
	}
}
