package isa

import "simulacrum/api"

// Where the fields of a word begin; Imm and C overlap, but no form has both.
const (
	atOp  = 26
	atA   = 22
	atB   = 18
	atC   = 14
	atImm = 0
)

// How many bits the fields of a word have.
const (
	opBits       = 6
	registerBits = 4
	immBits      = 18
)

// Right reports whether an instruction is right.
func Right(i api.Ins) bool {
	return Form(i.Op) != 0 && i == formed(i) && isRegister(i.A) && isRegister(i.B) && isRegister(i.C) && i.Imm >= api.MinImm && i.Imm <= api.MaxImm
}

// Encode returns the word of a right instruction; ErrArg for another one.
func Encode(i api.Ins) (uint32, api.Errno) {
	if !Right(i) {
		return 0, api.ErrArg
	}
	return word(i), api.OK
}

// Decode returns the right instruction that has a word, and whether there is one.
func Decode(w uint32) (api.Ins, bool) {
	cut := func(at, bits int) int { return int(w >> at & (1<<bits - 1)) }
	imm := cut(atImm, immBits)
	if imm > api.MaxImm {
		imm -= 1 << immBits
	}
	i := formed(api.Ins{
		Op:  cut(atOp, opBits),
		A:   cut(atA, registerBits),
		B:   cut(atB, registerBits),
		C:   cut(atC, registerBits),
		Imm: imm,
	})
	// A bit that belongs to no field of the form is lost in i, and so i has another word.
	if Form(i.Op) == 0 || word(i) != w {
		return api.Ins{}, false
	}
	return i, true
}

// formed returns an instruction without the fields that its form does not have.
func formed(i api.Ins) api.Ins {
	switch Form(i.Op) {
	case api.FmThree:
		return api.Ins{Op: i.Op, A: i.A, B: i.B, C: i.C}
	case api.FmTwo:
		return api.Ins{Op: i.Op, A: i.A, B: i.B, Imm: i.Imm}
	case api.FmOne:
		return api.Ins{Op: i.Op, A: i.A, Imm: i.Imm}
	case api.FmB:
		return api.Ins{Op: i.Op, B: i.B}
	case api.FmNone:
		return api.Ins{Op: i.Op}
	}
	return api.Ins{}
}

func isRegister(r int) bool { return r >= 0 && r < api.Regs }

// word returns the word of a right instruction: the fields that its form does not have are 0, and leave its bits alone.
func word(i api.Ins) uint32 {
	const immMask = 1<<immBits - 1
	return uint32(i.Op)<<atOp | uint32(i.A)<<atA | uint32(i.B)<<atB | uint32(i.C)<<atC | uint32(i.Imm)&immMask<<atImm
}
