package alu_test

import (
	"fmt"

	"simulacrum/alu"
	"simulacrum/api"
)

func ExampleDo() {
	fmt.Println(alu.Do(api.OpSub, 3, 5))
	fmt.Println(alu.Do(api.OpDiv, 7, 0))
	_, e := alu.Do(13, 1, 2)
	fmt.Println(e == api.ErrArg)
	// Output:
	// 4294967294 0
	// 4294967295 0
	// true
}

func ExampleTaken() {
	fmt.Println(alu.Taken(api.OpBlt, 1<<31, 0), alu.Taken(api.OpBltu, 1<<31, 0))
	// Output: true false
}

func ExampleExtend() {
	w := alu.Extend(0x20000, 18)
	fmt.Printf("%#x %d\n", w, alu.Signed(w))
	// Output: 0xfffe0000 -131072
}

func ExampleSetByte() {
	w := alu.SetByte(0x01020304, 1, 255)
	fmt.Printf("%#08x %d\n", w, alu.Byte(w, -1))
	// Output: 0x0102ff04 1
}
