package core

import (
	"simulacrum/api"
	"simulacrum/isa"
	"simulacrum/memory"
	"simulacrum/table"
	"simulacrum/trap"
)

const wordSize = 4 // bytes of a word

// step is a step under way: the processor as it is being changed, the memory with the bits that the tables have got so far, the lines, the instruction, and what becomes the effect.
type step struct {
	api.CPU
	mem     api.Mem
	pending uint32
	ins     api.Ins
	effect  api.Effect
}

// leaving is what a step panics with to end in a trap.
type leaving struct{ cause, value, epc uint32 }

// do does the step. What leaves it for a trap has changed no register before, and PC does not matter then.
func (s *step) do() {
	defer func() {
		if l, is := recover().(leaving); is {
			s.CPU = trap.Enter(s.CPU, l.cause, l.value, l.epc)
			s.effect.Trap = int(l.cause)
		}
	}()
	if line, is := trap.Due(s.CPU, s.pending); is {
		s.leave(api.CaInterrupt+line, 0)
	}
	s.fetch()
	do := find(s.ins.Op)
	do(s)
}

// fetch reads the instruction. From then on PC is that of the next one.
func (s *step) fetch() {
	at := s.place(s.PC, api.AxFetch, wordSize)
	s.effect.Word = s.load(at, wordSize)
	ins, legal := isa.Decode(s.effect.Word)
	s.require(legal && !(s.User && isa.Privileged(ins.Op)))
	s.ins = ins
	s.PC += wordSize
}

// here returns the address of the instruction.
func (s *step) here() uint32 { return s.effect.Old.PC }

// leave ends the step in a trap that comes back to the instruction.
func (s *step) leave(cause int, value uint32) {
	panic(leaving{uint32(cause), value, s.here()})
}

// require ends the step in the trap of an illegal instruction, unless a condition holds.
func (s *step) require(holds bool) {
	if !holds {
		s.leave(api.CaIllegal, s.effect.Word)
	}
}

// place returns where a virtual address leads for an access of so many bytes, and sets the bits of the tables.
func (s *step) place(va uint32, access, size int) int {
	if va%uint32(size) != 0 {
		s.leave(api.CaAlign, va)
	}
	w, cause := table.Walk(s.mem, s.C[api.CoTable], va, access, s.User)
	for _, at := range w.Reads {
		s.touch(at, wordSize, false)
	}
	for _, set := range w.Set {
		s.store(set)
	}
	if cause != 0 {
		s.leave(cause, va)
	}
	// What follows in the step may read these bits; what an instruction stores is not read any more.
	s.mem = after(s.mem, w.Set)
	return w.At
}

func (s *step) load(at, size int) uint32 {
	s.touch(at, size, false)
	x, _ := memory.Load(s.mem, at, size)
	return x
}

func (s *step) store(w api.Write) {
	s.touch(w.At, w.Size, true)
	s.effect.Writes = append(s.effect.Writes, w)
}

// touch notes an access.
func (s *step) touch(at, size int, store bool) {
	s.effect.Accesses = append(s.effect.Accesses, api.Access{At: at, Size: size, Store: store})
}
