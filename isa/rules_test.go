package isa

import (
	"slices"
	"strings"

	"simulacrum/api"
)

// rule is what the chapter says of an operation, in the chapter's words: its number, its form and fields, whether it is for kernel mode alone, what it does to memory, which fields name the registers that it reads, whether it writes the register A, and whether it has a target.
type rule struct {
	op         int
	name       string
	form       int
	fields     string // A, B, C, I (Imm)
	privileged bool
	access     int
	size       int
	reads      string
	writes     bool
	target     bool
}

// rules returns the chapter's table, with P4.4 to P4.7.
func rules() []rule {
	var out []rule
	form := func(form int, fields string, first int, names string) {
		for k, name := range strings.Fields(names) {
			out = append(out, rule{op: first + k, name: name, form: form, fields: fields})
		}
	}
	form(1, "ABC", 1, "add sub and or xor shl shr mul div rem slt sltu")
	form(2, "ABI", 16, "addi")
	form(3, "AI", 17, "high")
	form(2, "ABI", 20, "lw sw lb sb swap")
	form(2, "ABI", 28, "beq bne blt bltu")
	form(3, "AI", 32, "jal")
	form(2, "ABI", 33, "jalr")
	form(5, "", 40, "ecall eret")
	form(3, "AI", 42, "csrr csrw")
	form(4, "B", 44, "flush")
	form(5, "", 45, "wait")
	form(3, "AI", 46, "in out")
	form(5, "", 48, "halt")
	each := func(names string, set func(r *rule)) {
		for _, name := range strings.Fields(names) {
			set(&out[slices.IndexFunc(out, func(r rule) bool { return r.name == name })])
		}
	}
	each("eret csrr csrw flush wait in out halt", func(r *rule) { r.privileged = true })
	each("lw", func(r *rule) { r.access, r.size = 1, 4 })
	each("lb", func(r *rule) { r.access, r.size = 1, 1 })
	each("sw", func(r *rule) { r.access, r.size = 2, 4 })
	each("sb", func(r *rule) { r.access, r.size = 2, 1 })
	each("swap", func(r *rule) { r.access, r.size = 3, 4 })
	three := "add sub and or xor shl shr mul div rem slt sltu "
	each(three, func(r *rule) { r.reads = "BC" })
	each("addi lw lb jalr flush", func(r *rule) { r.reads = "B" })
	each("sw sb swap beq bne blt bltu", func(r *rule) { r.reads = "AB" })
	each("csrw out", func(r *rule) { r.reads = "A" })
	each(three+"addi high lw lb swap jal jalr csrr in", func(r *rule) { r.writes = true })
	each("beq bne blt bltu jal", func(r *rule) { r.target = true })
	return out
}

// book has the rules by the numbers of the operations.
type book map[int]rule

func chapter() book {
	out := book{}
	for _, r := range rules() {
		out[r.op] = r
	}
	return out
}

// right is what the chapter calls right.
func (b book) right(i api.Ins) bool {
	r, ok := b[i.Op]
	if !ok {
		return false
	}
	good := func(field string, value, least, most int) bool {
		if strings.Contains(r.fields, field) {
			return value >= least && value <= most
		}
		return value == 0
	}
	return good("A", i.A, 0, 15) && good("B", i.B, 0, 15) && good("C", i.C, 0, 15) && good("I", i.Imm, -131072, 131071)
}

// word is the chapter's word of a right instruction, as a sum.
func (b book) word(i api.Ins) uint32 {
	imm := i.Imm
	if imm < 0 {
		imm += 262144
	}
	return uint32(i.Op*67108864 + i.A*4194304 + i.B*262144 + i.C*16384 + imm)
}

// ins is the right instruction that has a word: the digits of the word to the bases 64, 16, 16 and 16 or 2^18.
func (b book) ins(w uint32) (api.Ins, bool) {
	n := int(w)
	digit := func(base int) int {
		d := n % base
		n /= base
		return d
	}
	r, ok := b[n/67108864]
	if !ok {
		return api.Ins{}, false
	}
	i := api.Ins{Op: r.op}
	if strings.Contains(r.fields, "C") {
		if digit(16384) != 0 {
			return api.Ins{}, false
		}
		i.C = digit(16)
	} else if i.Imm = digit(262144); i.Imm >= 131072 {
		i.Imm -= 262144
	}
	i.B = digit(16)
	i.A = digit(16)
	return i, b.right(i)
}

// reads is P4.6.
func (b book) reads(i api.Ins) []int {
	var out []int
	for k := 1; k < 16; k++ {
		for _, field := range b[i.Op].reads {
			if k == map[rune]int{'A': i.A, 'B': i.B, 'C': i.C}[field] {
				out = append(out, k)
				break
			}
		}
	}
	return out
}

// writes is P4.6.
func (b book) writes(i api.Ins) int {
	if b[i.Op].writes {
		return i.A
	}
	return 0
}

// target is P4.7, in integers of unlimited size.
func (b book) target(pc uint32, i api.Ins) (uint32, bool) {
	if !b.right(i) || !b[i.Op].target {
		return 0, false
	}
	at := (int(pc) + 4*i.Imm) % 4294967296
	if at < 0 {
		at += 4294967296
	}
	return uint32(at), true
}
