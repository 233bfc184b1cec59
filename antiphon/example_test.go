package antiphon_test

import (
	"fmt"

	"antiphon/antiphon"
	"antiphon/api"
)

func Example() {
	x, _ := antiphon.New(api.Config{Centres: 2, Shards: 1, Keys: 2})
	here, _ := x.Open(0)
	there, _ := x.Open(1)

	x.Put(here, 0, 7)
	x.Deliver(0) // PUT: the server answers, and sends a copy to the other centre
	x.Deliver(1) // PUTTED: it is done
	results, _ := x.Results(here)
	fmt.Println(results[0].Versions, results[0].Values)

	x.Deliver(0) // COPY: it is visible in the other centre, too
	x.Get(there, 0)
	for x.Bag() > 0 {
		x.Deliver(0)
	}
	results, _ = x.Results(there)
	fmt.Println(results[0].Versions, results[0].Values)

	x.Trans(there, 0, 1)
	for x.Bag() > 0 {
		x.Deliver(0)
	}
	results, _ = x.Results(there)
	fmt.Println(results[1].Keys, results[1].Versions, results[1].Values)

	x.Sweep(0)
	stored, _ := x.Stored(0, 0)
	fmt.Println(stored[0].Version, stored[0].Value, stored[0].Settled)
	// Output:
	// [{1 0}] [7]
	// [{1 0}] [7]
	// [0 1] [{1 0} {0 0}] [7 0]
	// {1 0} 7 true
}
