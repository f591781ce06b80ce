package asm_test

import (
	"fmt"

	"simulacrum/api"
	"simulacrum/asm"
)

func ExampleAssemble() {
	i, p := asm.Assemble(".org 8\na: .word a, a + 4, -1\n.entry a")
	for _, s := range i.Segments {
		fmt.Printf("%d: % x\n", s.At, s.Data)
	}
	fmt.Println(i.Entry, i.Pages, p.E == api.OK)
	_, p = asm.Assemble("add r1, r2")
	fmt.Println(p.At, p.E == api.ErrSyntax)
	// Output:
	// 8: 08 00 00 00 0c 00 00 00 ff ff ff ff
	// 8 1 true
	// 10 true
}

func ExampleLabels() {
	l, p := asm.Labels("start: halt\nend: .space 3\nbehind:")
	fmt.Println(l["start"], l["end"], l["behind"], p.E == api.OK)
	// Output:
	// 0 4 7 true
}

func ExampleInstruction() {
	fmt.Println(asm.Instruction(71876608, 0))
	fmt.Println(asm.Instruction(0, 0))
	// Output:
	// add r1, r2, r3
	// .word 0
}

func ExampleDisassemble() {
	i, _ := asm.Assemble("loop: addi r1, r1, -1\nbne r1, r0, loop\nhalt\n.text \"ok\"")
	src, e := asm.Disassemble(i)
	fmt.Print(src)
	fmt.Println(e == api.OK)
	// Output:
	// .pages 1
	// .entry 0
	// .org 0
	// addi r1, r1, -1
	// bne r1, r0, 0
	// halt
	// .text "o"
	// .text "k"
	// true
}
