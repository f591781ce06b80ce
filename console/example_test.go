package console_test

import (
	"fmt"
	"strings"

	"simulacrum/api"
	"simulacrum/console"
)

func ExampleFeed() {
	c := api.Console{In: strings.Repeat("a", 63)}
	c, is := console.Feed(c, 'b')
	fmt.Println(len(c.In), c.Lost, is)
	c, is = console.Feed(c, 'c')
	fmt.Println(len(c.In), c.Lost, is)
	// Output:
	// 64 0 true
	// 64 1 false
}

func ExamplePort() {
	c, _ := console.Feed(api.Console{}, 'a')
	c, _ = console.Feed(c, 'b')
	_, x, _, _ := console.Port(c, api.IO{In: true, Port: api.PoWaiting})
	fmt.Println(x)
	for range 3 {
		c, x, _, _ = console.Port(c, api.IO{In: true, Port: api.PoIn})
		fmt.Println(x)
	}
	_, _, out, _ := console.Port(c, api.IO{Port: api.PoOut, Value: 0x141})
	fmt.Println(out)
	_, _, _, is := console.Port(c, api.IO{In: true, Port: api.PoOut})
	fmt.Println(is)
	// Output:
	// 2
	// 97
	// 98
	// 4294967295
	// A
	// false
}

func ExampleEncode() {
	b := console.Encode(api.Console{In: "ab", Lost: 5})
	fmt.Println(b)
	c, e := console.Decode(b)
	fmt.Println(c.In, c.Lost, e == api.OK)
	_, e = console.Decode(append(b, 0))
	fmt.Println(e == api.ErrEncoding)
	_, e = console.Decode(b[:3])
	fmt.Println(e == api.ErrTruncated)
	_, e = console.Decode([]byte{0, 1}) // -1 bytes were lost
	fmt.Println(e == api.ErrForm)
	// Output:
	// [4 97 98 10]
	// ab 5 true
	// true
	// true
	// true
}
