package memory_test

import (
	"fmt"

	"simulacrum/api"
	"simulacrum/memory"
)

func ExampleStore() {
	zeros, e := memory.New(2)
	fmt.Println(e, memory.Size(zeros))
	m, ok := memory.Store(zeros, api.Write{At: 128, Size: 4, Value: 0x11223344})
	word, _ := memory.Load(m, 128, 4)
	least, _ := memory.Load(m, 128, 1)
	fmt.Printf("%v %#x %#x\n", ok, word, least)
	_, ok = memory.Load(m, 130, 4)
	fmt.Println(ok)
	// Output:
	// 0 256
	// true 0x11223344 0x44
	// false
}

func ExampleApply() {
	m, _ := memory.New(1)
	m, ok := memory.Apply(m, []api.Write{{At: 0, Size: 4, Value: 0x11223344}, {At: 1, Size: 1, Value: 0x1ff}})
	word, _ := memory.Load(m, 0, 4)
	fmt.Printf("%v %#x\n", ok, word)
	_, ok = memory.Apply(m, []api.Write{{At: 0, Size: 4}, {At: 2, Size: 4}})
	fmt.Println(ok)
	// Output:
	// true 0x1122ff44
	// false
}

func ExampleDiff() {
	m, _ := memory.New(3)
	other, _ := memory.Write(m, 127, "ab")
	fmt.Println(memory.Read(other, 127, 2))
	fmt.Println(memory.Diff(m, other))
	// Output:
	// ab true
	// [0 1]
}
