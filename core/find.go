package core

import (
	"simulacrum/api"
	"simulacrum/isa"
)

// instruction does the instruction of a step.
type instruction func(s *step)

// find returns what does an operation.
func find(op int) instruction {
	switch {
	case isa.Form(op) == api.FmThree:
		return (*step).compute
	case isa.Privileged(op):
		return privileged(op)
	}
	if do, is := moves(op); is {
		return do
	}
	return jumps(op)
}

// The maps below are built in every step: a map of at most 8 entries that does not leave its function is built without an allocation, which is why the operations stand in three of them.

func privileged(op int) instruction {
	return map[int]instruction{
		api.OpEret:  (*step).eret,
		api.OpCsrr:  (*step).csrr,
		api.OpCsrw:  (*step).csrw,
		api.OpFlush: (*step).flush,
		api.OpWait:  (*step).wait,
		api.OpIn:    (*step).in,
		api.OpOut:   (*step).out,
		api.OpHalt:  (*step).halt,
	}[op]
}

func moves(op int) (instruction, bool) {
	do, is := map[int]instruction{
		api.OpAddi: (*step).addi,
		api.OpHigh: (*step).high,
		api.OpLw:   (*step).read,
		api.OpLb:   (*step).read,
		api.OpSw:   (*step).write,
		api.OpSb:   (*step).write,
		api.OpSwap: (*step).swap,
	}[op]
	return do, is
}

func jumps(op int) instruction {
	return map[int]instruction{
		api.OpBeq:   (*step).branch,
		api.OpBne:   (*step).branch,
		api.OpBlt:   (*step).branch,
		api.OpBltu:  (*step).branch,
		api.OpJal:   (*step).jal,
		api.OpJalr:  (*step).jalr,
		api.OpEcall: (*step).ecall,
	}[op]
}
