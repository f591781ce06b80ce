package isa

import (
	"slices"

	"simulacrum/api"
)

// Reads returns the registers that a right instruction reads, without 0, in ascending order, each once.
func Reads(i api.Ins) []int {
	if !Right(i) {
		return nil
	}
	switch i.Op {
	case api.OpAddi, api.OpLw, api.OpLb, api.OpJalr, api.OpFlush:
		return registers(i.B)
	case api.OpSw, api.OpSb, api.OpSwap, api.OpBeq, api.OpBne, api.OpBlt, api.OpBltu:
		return registers(i.A, i.B)
	case api.OpCsrw, api.OpOut:
		return registers(i.A)
	}
	if Form(i.Op) == api.FmThree {
		return registers(i.B, i.C)
	}
	return nil
}

// Writes returns the register that a right instruction writes; 0 if it writes none.
func Writes(i api.Ins) int {
	if !Right(i) {
		return 0
	}
	switch i.Op {
	case api.OpAddi, api.OpHigh, api.OpLw, api.OpLb, api.OpSwap, api.OpJal, api.OpJalr, api.OpCsrr, api.OpIn:
		return i.A
	}
	if Form(i.Op) == api.FmThree {
		return i.A
	}
	return 0
}

// Target returns where a right branch or jal at the address pc goes if it is taken, and whether the instruction is one of these.
func Target(pc uint32, i api.Ins) (uint32, bool) {
	if !Right(i) {
		return 0, false
	}
	switch i.Op {
	case api.OpBeq, api.OpBne, api.OpBlt, api.OpBltu, api.OpJal:
		return pc + uint32(4*i.Imm), true
	}
	return 0, false
}

// registers returns some registers without 0, in ascending order, each once.
func registers(some ...int) []int {
	var out []int
	for _, r := range some {
		if r != 0 && !slices.Contains(out, r) {
			out = append(out, r)
		}
	}
	slices.Sort(out)
	return out
}
