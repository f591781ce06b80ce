package isa_test

import (
	"fmt"

	"simulacrum/api"
	"simulacrum/isa"
)

func ExampleEncode() {
	w, e := isa.Encode(api.Ins{Op: isa.Find("addi"), A: 1, Imm: -1})
	fmt.Println(w, e == api.OK)
	_, e = isa.Encode(api.Ins{Op: api.OpAdd, A: 16})
	fmt.Println(e == api.ErrArg)
	// Output:
	// 1078198271 true
	// true
}

func ExampleDecode() {
	i, ok := isa.Decode(71876608)
	fmt.Println(isa.Name(i.Op), i.A, i.B, i.C, ok)
	fmt.Println(isa.Reads(i), isa.Writes(i))
	_, ok = isa.Decode(71876609)
	fmt.Println(ok)
	// Output:
	// add 1 2 3 true
	// [2 3] 1
	// false
}

func ExampleTarget() {
	i := api.Ins{Op: api.OpBeq, A: 1, B: 1, Imm: -2}
	fmt.Println(isa.Target(8, i))
	fmt.Println(isa.Target(4, i))
	// Output:
	// 0 true
	// 4294967292 true
}
