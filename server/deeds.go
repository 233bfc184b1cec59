package server

import "antiphon/api"

// deeds has, by kinds, what a server does with a message.
var deeds = makeDeeds()

func makeDeeds() [api.Everywhere + 1]func(*Server, api.Message) {
	return [...]func(*Server, api.Message){
		api.Put:        (*Server).put,
		api.Get:        (*Server).get,
		api.Fetch:      (*Server).fetch,
		api.Copy:       (*Server).copy,
		api.Kept:       (*Server).kept,
		api.Need:       (*Server).need,
		api.Met:        (*Server).met,
		api.Seen:       (*Server).seen,
		api.Everywhere: (*Server).everywhere,
	}
}
