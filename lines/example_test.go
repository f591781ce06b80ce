package lines_test

import (
	"fmt"

	"simulacrum/api"
	"simulacrum/lines"
)

func ExampleRaise() {
	c, _ := lines.New(2)
	c, _, _ = lines.Port(c, 1, api.IO{Port: api.PoMask, Value: 31})
	c = lines.Raise(c, api.LiSignal, 1)
	c = lines.Raise(c, api.LiBlock, 1) // the block device is routed to processor 0
	fmt.Println(lines.Pending(c, 0), lines.Pending(c, 1))
	c, _, _ = lines.Port(c, 0, api.IO{Port: api.PoMask, Value: 1 << api.LiBlock})
	fmt.Println(lines.Pending(c, 0), lines.Pending(c, 1))
	// Output:
	// 0 16
	// 4 16
}

func ExamplePort() {
	c, _ := lines.New(2)
	c, _, _ = lines.Port(c, 1, api.IO{Port: api.PoMask, Value: 31})
	c, _, _ = lines.Port(c, 1, api.IO{Port: api.PoRoute, Value: 16*api.LiNet + 1})
	c = lines.Raise(c, api.LiNet, 0)
	_, x, _ := lines.Port(c, 1, api.IO{In: true, Port: api.PoPending})
	fmt.Println(x)
	c, _, _ = lines.Port(c, 1, api.IO{Port: api.PoAck, Value: api.LiNet})
	fmt.Println(lines.Pending(c, 1))
	_, _, e := lines.Port(c, 1, api.IO{In: true, Port: api.PoAck})
	fmt.Println(e == api.ErrName)
	// Output:
	// 8
	// 0
	// true
}

func ExampleEncode() {
	c, _ := lines.New(2)
	b := lines.Encode(lines.Raise(c, api.LiNet, 0))
	fmt.Println(b)
	again, e := lines.Decode(b)
	fmt.Println(again.Raised, e == api.OK)
	_, e = lines.Decode(b[1:])
	fmt.Println(e == api.ErrEncoding)
	// Output:
	// [28 4 16 0 0 0 0 0 0 0 0 0 0 0 0]
	// [8 0 0 0] true
	// true
}
