package ring_test

import (
	"fmt"

	"simulacrum/api"
	"simulacrum/memory"
	"simulacrum/ring"
)

// words returns the memory with some words from an address on.
func words(m api.Mem, at int, l ...uint32) api.Mem {
	for k, w := range l {
		m, _ = memory.Store(m, api.Write{At: at + 4*k, Size: 4, Value: w})
	}
	return m
}

// offered returns a memory of 8 pages with the text "abc" at 512, and a ring of four descriptors at 256: the request that begins with the descriptor 1 reads the text, and writes up to five bytes to 600.
func offered() (api.Mem, api.Ring) {
	m, _ := memory.New(8)
	m, _ = memory.Write(m, 512, "abc")
	m = words(m, 256+16, 512, 3, api.DcMore+2<<8, api.StOffered)
	m = words(m, 256+32, 600, 5, api.DcWrite, api.StOffered)
	return m, api.Ring{Base: 256, Size: 4}
}

func ExampleCheck() {
	m, r := offered()
	fmt.Println(ring.Check(m, r) == api.OK)
	fmt.Println(ring.Check(m, api.Ring{Base: 8, Size: 4}) == api.ErrBase)
	// Output:
	// true
	// true
}

func ExampleFirst() {
	m, r := offered()
	fmt.Println(ring.First(m, r, 0))
	fmt.Println(ring.First(m, r, 2))
	fmt.Println(ring.First(m, r, 3))
	// Output:
	// 1 true
	// 2 true
	// 1 true
}

func ExampleTake() {
	m, r := offered()
	taken, l, e := ring.Take(m, r, 1)
	fmt.Println(l, e == api.OK)
	_, l, e = ring.Take(taken, r, 1)
	fmt.Println(l, e == api.ErrOffer)
	loop := words(m, 256+40, api.DcWrite+api.DcMore+1<<8)
	failed, _, e := ring.Take(loop, r, 1)
	status, _ := memory.Load(failed, 256+28, 4)
	fmt.Println(status, e == api.ErrLoop)
	// Output:
	// [{1 512 3 false} {2 600 5 true}] true
	// [] true
	// 7 true
}

func ExampleScatter() {
	m, r := offered()
	m, l, _ := ring.Take(m, r, 1)
	fmt.Println(ring.Gather(m, l), ring.Room(l))
	m, n := ring.Scatter(m, l, "abcdefg")
	s, _ := memory.Read(m, 600, 7)
	fmt.Printf("%q %d\n", s, n)
	m = ring.Finish(m, r, l)
	status, _ := memory.Load(m, 256+28, 4)
	fmt.Println(status == api.StDone)
	// Output:
	// abc 5
	// "abcde\x00\x00" 5
	// true
}
