package wire_test

import (
	"fmt"

	"antiphon/api"
	"antiphon/wire"
)

func Example() {
	b, e := wire.Encode(api.Message{Kind: api.Put, From: 2, To: 0, Op: 1, Key: 0, Value: 7})
	fmt.Println(b, e == api.OK)

	m, e := wire.Decode(b)
	fmt.Println(m.Kind == api.Put, m.From, m.Value, e == api.OK)

	_, e = wire.Decode(b[1:])
	fmt.Println(e == api.ErrForm)
	// Output:
	// [1 2 0 0 1 0 14 0] true
	// true 2 7 true
	// true
}
