package image_test

import (
	"fmt"

	"simulacrum/api"
	"simulacrum/image"
	"simulacrum/memory"
)

func ExampleLoad() {
	m, e := image.Load(api.Image{Entry: 4, Pages: 1, Segments: []api.Segment{{At: 0, Data: "ab"}, {At: 4, Data: "c"}}})
	word, _ := memory.Load(m, 0, 4)
	fmt.Printf("%#x %v\n", word, e == api.OK)
	// Output:
	// 0x6261 true
}

func ExampleCPUs() {
	l, e := image.CPUs(api.Image{Entry: 4, Pages: 1}, 2)
	for _, c := range l {
		fmt.Println(c.PC, c.C[api.CoID], c.Waiting)
	}
	fmt.Println(e == api.OK)
	// Output:
	// 4 0 false
	// 4 1 true
	// true
}

func ExampleOf() {
	zeros, _ := memory.New(2)
	m, _ := memory.Write(zeros, 1, "\x01\x00\x02")
	m, _ = memory.Write(m, 128, "\x03")
	i, e := image.Of(m, 4, nil)
	for _, s := range i.Segments {
		fmt.Printf("%d: %q\n", s.At, s.Data)
	}
	fmt.Println(e == api.OK)
	// Output:
	// 1: "\x01\x00\x02"
	// 128: "\x03"
	// true
}

func ExampleDecode() {
	b := image.Encode(api.Image{Entry: 4, Pages: 1, Segments: []api.Segment{{At: 0, Data: "ab"}}})
	fmt.Println(b)
	i, e := image.Decode(b)
	fmt.Println(i.Entry, i.Pages, i.Segments, e == api.OK)
	_, e = image.Decode(append(b, 0))
	fmt.Println(e == api.ErrEncoding)
	// Output:
	// [8 8 2 0 0 2 4 97 98]
	// 4 1 [{0 ab}] true
	// true
}
