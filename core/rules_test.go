package core

import (
	"simulacrum/alu"
	"simulacrum/api"
	"simulacrum/isa"
	"simulacrum/memory"
	"simulacrum/table"
	"simulacrum/trap"
)

// The functions of this file are the chapter's words and rules, taken one by one, with its numbers written out. Sums are those of integers, and are then taken modulo 2^32.

// rule is a step up to some place in the chapter: its effect, and the memory with all that was stored.
type rule struct {
	e api.Effect
	m api.Mem
}

func modulo(n int) uint32 {
	const words = 1 << 32
	return uint32((n%words + words) % words)
}

// accesses notes that a place is read.
func (r *rule) accesses(at, size int) {
	r.e.Accesses = append(r.e.Accesses, api.Access{At: at, Size: size})
}

// stores stores at a place, and notes it.
func (r *rule) stores(w api.Write) {
	r.e.Accesses = append(r.e.Accesses, api.Access{At: w.At, Size: w.Size, Store: true})
	r.e.Writes = append(r.e.Writes, w)
	r.m, _ = memory.Store(r.m, w)
}

// translation is the one of the chapter's terms.
func (r *rule) translation(va uint32, access int) (int, int) {
	w, cause := table.Walk(r.m, r.e.Old.C[0], va, access, r.e.Old.User)
	for _, at := range w.Reads {
		r.accesses(at, 4)
	}
	for _, set := range w.Set {
		r.stores(set)
	}
	return w.At, cause
}

// begun is the processor of a step, with what every step changes.
func (r *rule) begun() api.CPU {
	c := r.e.Old
	c.Count = c.Count + 1
	c.Waiting = false
	return c
}

// trap is the step that becomes a trap here.
func (r *rule) trap(cause int, value, epc uint32) api.Effect {
	r.e.CPU = trap.Enter(r.begun(), uint32(cause), value, epc)
	r.e.Trap = cause
	return r.e
}

// stepRule is P12.1.
func stepRule(c api.CPU, m api.Mem, pending uint32) api.Effect {
	if !trap.Ready(c, pending) {
		return api.Effect{CPU: c}
	}
	r := &rule{api.Effect{Done: true, Old: c}, m}
	if line, is := trap.Due(c, pending); is {
		return r.trap(16+line, 0, c.PC)
	}
	if c.PC%4 > 0 {
		return r.trap(3, c.PC, c.PC)
	}
	at, cause := r.translation(c.PC, 4)
	if cause != 0 {
		return r.trap(cause, c.PC, c.PC)
	}
	r.accesses(at, 4)
	r.e.Word, _ = memory.Load(r.m, at, 4)
	i, legal := isa.Decode(r.e.Word)
	if !legal {
		return r.trap(2, r.e.Word, c.PC)
	}
	if c.User && isa.Privileged(i.Op) {
		return r.trap(2, r.e.Word, c.PC)
	}
	return r.instruction(i, pending)
}

// result is the end of a step without a trap: with another PC, if there is one, and then with R[a], if it is written.
func (r *rule) result(c api.CPU, pc *uint32, a int, value *uint32) api.Effect {
	c.PC = modulo(int(c.PC) + 4)
	if pc != nil {
		c.PC = *pc
	}
	if value != nil && a != 0 {
		c.R[a] = *value
	}
	r.e.CPU = c
	return r.e
}

// instruction is P12.2.
func (r *rule) instruction(i api.Ins, pending uint32) api.Effect {
	c, pc := r.begun(), int(r.e.Old.PC)
	a, b := c.R[i.A], c.R[i.B]
	sum, follows := modulo(int(b)+i.Imm), modulo(pc+4)
	target := modulo(pc + 4*i.Imm)
	switch isa.Name(i.Op) {
	case "add", "sub", "and", "or", "xor", "shl", "shr", "mul", "div", "rem", "slt", "sltu":
		x, _ := alu.Do(i.Op, b, c.R[i.C])
		return r.result(c, nil, i.A, &x)
	case "addi":
		return r.result(c, nil, i.A, &sum)
	case "high":
		x := modulo(i.Imm * 16384)
		return r.result(c, nil, i.A, &x)
	case "lw", "lb", "sw", "sb", "swap":
		return r.memory(i, c, a, sum)
	case "beq", "bne", "blt", "bltu":
		if !alu.Taken(i.Op, a, b) {
			return r.result(c, nil, 0, nil)
		}
		return r.result(c, &target, 0, nil)
	case "jal":
		return r.result(c, &target, i.A, &follows)
	case "jalr":
		return r.result(c, &sum, i.A, &follows)
	case "ecall":
		return r.trap(1, 0, follows)
	case "eret":
		c = trap.Return(c)
		return r.result(c, &c.PC, 0, nil)
	}
	return r.kernel(i, c, a, b, pending)
}

// memory is what P12.2 says of lw, lb, sw, sb and swap.
func (r *rule) memory(i api.Ins, c api.CPU, a, address uint32) api.Effect {
	size, access := 4, 1
	switch isa.Name(i.Op) {
	case "lb":
		size = 1
	case "sw":
		access = 2
	case "sb":
		size, access = 1, 2
	case "swap":
		access = 3
	}
	if size == 4 && address%4 != 0 {
		return r.trap(3, address, r.e.Old.PC)
	}
	at, cause := r.translation(address, access)
	if cause != 0 {
		return r.trap(cause, address, r.e.Old.PC)
	}
	var loaded *uint32
	if access == 1 || access == 3 {
		r.accesses(at, size)
		x, _ := memory.Load(r.m, at, size)
		loaded = &x
	}
	if access == 2 || access == 3 {
		r.stores(api.Write{At: at, Size: size, Value: a})
	}
	return r.result(c, nil, i.A, loaded)
}

// kernel is what P12.2 says of the instructions of kernel mode, but for eret.
func (r *rule) kernel(i api.Ins, c api.CPU, a, b, pending uint32) api.Effect {
	switch isa.Name(i.Op) {
	case "csrr":
		x, e := trap.Read(c, i.Imm, pending)
		if e != 0 {
			return r.trap(2, r.e.Word, r.e.Old.PC)
		}
		return r.result(c, nil, i.A, &x)
	case "csrw":
		after, e := trap.Write(c, i.Imm, a)
		if e != 0 {
			return r.trap(2, r.e.Word, r.e.Old.PC)
		}
		return r.result(after, nil, 0, nil)
	case "flush":
		r.e.Flush = 2
		if i.B != 0 {
			r.e.Flush, r.e.FlushAt = 1, b
		}
	case "wait":
		c.Waiting = true
	case "halt":
		c.Halted = true
	case "in":
		r.e.Asks, r.e.IO = true, api.IO{In: true, Port: i.Imm}
	case "out":
		r.e.Asks, r.e.IO = true, api.IO{Port: i.Imm, Value: a}
	}
	return r.result(c, nil, 0, nil)
}

// answerRule is P12.3.
func answerRule(e api.Effect, value uint32, ok bool) api.Effect {
	if !e.Asks {
		return e
	}
	in, a := e.IO.In, e.Word/(1<<22)%16
	e.Asks, e.IO = false, api.IO{}
	switch {
	case !ok:
		r := rule{e: e}
		return r.trap(2, e.Word, e.Old.PC)
	case in && a != 0:
		e.CPU.R[a] = value
	}
	return e
}

// runRule is P12.4.
func runRule(c api.CPU, m api.Mem, n int) (api.CPU, api.Mem, int) {
	for k := 0; k < n; k++ {
		e := answerRule(stepRule(c, m, 0), 0, false)
		if !e.Done {
			return c, m, k
		}
		c = e.CPU
		for _, w := range e.Writes {
			m, _ = memory.Store(m, w)
		}
	}
	return c, m, max(n, 0)
}
