package wire_test

import (
	"fmt"

	"simulacrum/api"
	"simulacrum/wire"
)

func Example() {
	b := wire.Strings([]string{"", "a"})
	fmt.Println(b)
	l, n, e := wire.GetStrings(append(b, 99))
	fmt.Printf("%q %d %v\n", l, n, e == api.OK)
	_, _, e = wire.GetStrings(b[:3])
	fmt.Println(e == api.ErrTruncated)
	_, _, e = wire.GetInt([]byte{128, 0})
	fmt.Println(e == api.ErrEncoding)
	// Output:
	// [4 0 2 97]
	// ["" "a"] 4 true
	// true
	// true
}
