package hash_test

import (
	"fmt"

	"simulacrum/hash"
)

func ExampleCrc() {
	c := hash.BeginCrc().Add("simu")
	fmt.Println(c.Add("lacrum").Value() == hash.Crc40([]byte("simulacrum")), c.Value() == hash.Crc40([]byte("simu")))
	fmt.Println(hash.Join(c.Value(), hash.Crc40([]byte("lacrum")), 6) == hash.Crc40([]byte("simulacrum")))
	// Output:
	// true true
	// true
}

func ExampleStream() {
	s := hash.Begin().Add("a")
	fmt.Printf("%x\n", s.Add("bc").Sum())
	fmt.Println(s.Sum() == hash.Sum([]byte("a")))
	// Output:
	// ba7816bf8f01cfea414140de5dae2223b00361a396177a9cb410ff61f20015ad
	// true
}

func ExampleOf() {
	fmt.Printf("%x\n", hash.Of(1))
	fmt.Println(hash.Of(-1, "a", "b") == hash.Of(255, "a", "b"), hash.Of(1, "a", "b") == hash.Of(1, "ab"))
	// Output:
	// 4bf5122f344554c53bde2ebb8cd2b7e3
	// true false
}
