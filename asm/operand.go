package asm

import (
	"strconv"
	"strings"

	"simulacrum/api"
	"simulacrum/isa"
)

// operands returns the operands of an operation: A, B and C stand for registers, V for a value, and the signs between them for themselves.
func operands(op int) string {
	switch form := isa.Form(op); {
	case form == api.FmThree:
		return "A,B,C"
	case isBased(op):
		return "A,V(B)"
	case form == api.FmTwo:
		return "A,B,V"
	case form == api.FmOne:
		return "A,V"
	case form == api.FmB:
		return "B"
	}
	return ""
}

// isBased reports whether the value of an operation is added to a register, which stands behind it.
func isBased(op int) bool {
	access, _ := isa.Access(op)
	return access != api.AxNone || op == api.OpJalr
}

// isRelative reports whether the value of an operation is an address, of which Imm has the distance.
func isRelative(op int) bool {
	_, ok := isa.Target(0, api.Ins{Op: op})
	return ok
}

func register(n int) string { return "r" + strconv.Itoa(n) }

// operandText returns the operands of an instruction at an address.
func operandText(i api.Ins, at int) string {
	value := i.Imm
	if isRelative(i.Op) {
		value = at + wordSize*i.Imm
	}
	said := strings.NewReplacer(
		"A", register(i.A),
		"B", register(i.B),
		"C", register(i.C),
		"V", strconv.Itoa(value),
		",", ", ",
	)
	return said.Replace(operands(i.Op))
}
