package clock_test

import (
	"fmt"

	"simulacrum/api"
	"simulacrum/clock"
)

func ExampleOffer() {
	c, _ := clock.Offer(api.Clock{}, 1, 7)
	_, e := clock.Offer(c, 0, 6)
	fmt.Println(e == api.ErrTime)
	c, x, _ := clock.Read(c, 1)
	fmt.Println(x)
	_, _, e = clock.Read(c, 1)
	fmt.Println(e == api.ErrState)
	// Output:
	// true
	// 7
	// true
}

func ExampleFire() {
	c, _ := clock.Set(api.Clock{}, 2, 10, 5)
	fmt.Println(clock.Next(c, 2))
	for count := 14; count <= 16; count++ {
		var is bool
		c, is = clock.Fire(c, 2, count)
		fmt.Println(count, is)
	}
	// Output:
	// 15
	// 14 false
	// 15 true
	// 16 false
}

func ExamplePort() {
	c, _ := clock.Offer(api.Clock{}, 0, 65)
	c, x, _ := clock.Port(c, 0, 1, api.IO{In: true, Port: 16})
	fmt.Println(x)
	c, _, _ = clock.Port(c, 0, 2, api.IO{Port: 17, Value: 100})
	fmt.Println(clock.Next(c, 0))
	_, _, e := clock.Port(c, 0, 3, api.IO{Port: 16})
	fmt.Println(e == api.ErrName)
	// Output:
	// 65
	// 102
	// true
}

func ExampleEncode() {
	c, _ := clock.Offer(api.Clock{}, 1, 7)
	b := clock.Encode(c)
	fmt.Println(b)
	again, e := clock.Decode(b)
	fmt.Println(again == c, e == api.OK)
	_, e = clock.Decode(b[1:])
	fmt.Println(e == api.ErrEncoding)
	// Output:
	// [26 14 0 0 0 2 14 0 0 0 0 0 0 0]
	// true true
	// true
}
