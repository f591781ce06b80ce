package table_test

import (
	"fmt"

	"simulacrum/api"
	"simulacrum/memory"
	"simulacrum/table"
)

func ExampleWalk() {
	zeros, _ := memory.New(64)
	m, e := table.Map(zeros, 128, 4224, 256, api.PtWrite, 384)
	fmt.Println(e == api.OK)
	w, cause := table.Walk(m, 128, 4230, api.AxStore, false)
	fmt.Println(w.At, w.Leaf, w.Set, w.Reads, cause)
	w, cause = table.Walk(m, 128, 4230, api.AxLoad, true)
	fmt.Println(w.Reads, cause == api.CaLoad)
	// Output:
	// true
	// 262 388 [{388 4 307}] [132 388] 0
	// [132 388] true
}

func ExampleMap() {
	zeros, _ := memory.New(64)
	m, e := table.Map(zeros, 128, 4224, 256, api.PtWrite, 384)
	first, _ := memory.Load(m, 132, 4)
	second, _ := memory.Load(m, 388, 4)
	fmt.Println(first, second, e == api.OK)
	_, e = table.Map(m, 128, 4224, 512, 0, 384)
	fmt.Println(e == api.ErrTwice)
	// Output:
	// 385 259 true
	// true
}

func ExampleList() {
	zeros, _ := memory.New(64)
	m, _ := table.Map(zeros, 128, 4224, 256, api.PtWrite, 384)
	m, _ = table.MapLarge(m, 128, 8192, 4096, api.PtExec)
	fmt.Println(table.List(m, 128))
	m, _ = table.Unmap(m, 128, 4230)
	fmt.Println(table.List(m, 128))
	// Output:
	// [{4224 256 3} {8192 4096 73}]
	// [{8192 4096 73}]
}
