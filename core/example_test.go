package core_test

import (
	"fmt"

	"simulacrum/api"
	"simulacrum/asm"
	"simulacrum/core"
	"simulacrum/image"
	"simulacrum/trap"
)

// boot returns the memory of a source, and a processor that begins at 0.
func boot(src string) (api.CPU, api.Mem) {
	i, _ := asm.Assemble(src)
	m, _ := image.Load(i)
	c, _ := trap.Write(trap.Begin(0, 0), api.CoVector, 64)
	return c, m
}

func ExampleStep() {
	c, m := boot("sw r2, 8(r0)")
	c.R[2] = 7
	e := core.Step(c, m, 0)
	fmt.Println(e.CPU.PC, e.CPU.Count, e.Writes, e.Accesses)
	c, m = boot("lw r1, 130(r0)")
	e = core.Step(c, m, 0)
	fmt.Println(e.CPU.PC, e.Trap == api.CaAlign, e.CPU.C[api.CoValue])
	c.C[api.CoStatus] = api.StOn
	e = core.Step(c, m, 1<<api.LiConsole)
	fmt.Println(e.CPU.PC, e.Trap, e.Accesses)
	// Output:
	// 4 1 [{8 4 7}] [{0 4 false} {8 4 true}]
	// 64 true 130
	// 64 17 []
}

func ExampleAnswer() {
	c, m := boot("in r1, 33")
	e := core.Step(c, m, 0)
	fmt.Println(e.Asks, e.IO)
	done := core.Answer(e, 9, true)
	fmt.Println(done.Asks, done.CPU.R[1], done.CPU.PC)
	refused := core.Answer(e, 0, false)
	fmt.Println(refused.Trap == api.CaIllegal, refused.CPU.C[api.CoEpc], refused.CPU.PC)
	// Output:
	// true {true 33 0}
	// false 9 4
	// true 0 64
}

func ExampleRun() {
	c, m := boot("addi r1, r0, 10 \n loop: add r2, r2, r1 \n addi r1, r1, -1 \n bne r1, r0, loop \n halt")
	c, m, n := core.Run(c, m, 1000)
	fmt.Println(c.R[2], c.Halted, n)
	_, _, n = core.Run(c, m, 1000)
	fmt.Println(n)
	// Output:
	// 55 true 32
	// 0
}
