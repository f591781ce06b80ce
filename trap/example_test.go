package trap_test

import (
	"fmt"

	"simulacrum/api"
	"simulacrum/trap"
)

func ExampleEnter() {
	c := trap.Begin(0, 64)
	c.User = true
	c, _ = trap.Write(c, api.CoVector, 128)
	c, _ = trap.Write(c, api.CoStatus, api.StOn)
	c = trap.Enter(c, api.CaLoad, 9, 4)
	fmt.Println(c.PC, c.User, c.C[api.CoCause], c.C[api.CoValue], c.C[api.CoEpc], c.C[api.CoStatus])
	c = trap.Return(c)
	fmt.Println(c.PC, c.User, c.C[api.CoStatus])
	// Output:
	// 128 false 5 9 4 6
	// 4 true 3
}

func ExampleDue() {
	c := trap.Begin(0, 64)
	fmt.Println(trap.Due(c, 6))
	c, _ = trap.Write(c, api.CoStatus, api.StOn)
	fmt.Println(trap.Due(c, 6))
	fmt.Println(trap.Due(c, 32))
	fmt.Println(trap.Ready(trap.Begin(1, 64), 32), trap.Ready(trap.Begin(1, 64), 6))
	// Output:
	// 0 false
	// 1 true
	// 0 false
	// false true
}

func ExampleRead() {
	c := trap.Begin(2, 64)
	fmt.Println(trap.Read(c, api.CoPending, 38))
	fmt.Println(trap.Read(c, api.CoID, 0))
	_, e := trap.Write(c, api.CoID, 1)
	fmt.Println(e == api.ErrArg)
	// Output:
	// 6 0
	// 2 0
	// true
}

func ExampleEncode() {
	b := trap.Encode(trap.Begin(2, 64))
	fmt.Println(b)
	c, e := trap.Decode(b)
	fmt.Println(c == trap.Begin(2, 64), e == api.OK)
	_, e = trap.Decode(b[1:])
	fmt.Println(e == api.ErrEncoding)
	// Output:
	// [56 128 1 0 0 0 0 0 0 0 0 0 0 0 0 0 0 0 0 0 0 0 0 0 0 0 0 4 4 0]
	// true true
	// true
}
