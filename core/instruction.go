package core

import (
	"simulacrum/alu"
	"simulacrum/api"
	"simulacrum/isa"
	"simulacrum/trap"
)

const immLow = 14 // the lowest bit of a word that the instruction high sets

// a returns the register A.
func (s *step) a() uint32 { return s.R[s.ins.A] }

// b returns the register B.
func (s *step) b() uint32 { return s.R[s.ins.B] }

// put writes the register that the instruction writes, if it writes one.
func (s *step) put(x uint32) { put(&s.CPU, s.ins, x) }

// sum returns the register B and Imm together.
func (s *step) sum() uint32 { return s.b() + uint32(s.ins.Imm) }

func (s *step) compute() {
	x, _ := alu.Do(s.ins.Op, s.b(), s.R[s.ins.C])
	s.put(x)
}

func (s *step) addi() { s.put(s.sum()) }

func (s *step) high() { s.put(uint32(s.ins.Imm) << immLow) }

// operand returns the place in memory that the instruction names.
func (s *step) operand() (at, size int) {
	access, size := isa.Access(s.ins.Op)
	return s.place(s.sum(), access, size), size
}

func (s *step) read() {
	s.put(s.load(s.operand()))
}

func (s *step) write() {
	at, size := s.operand()
	s.store(api.Write{At: at, Size: size, Value: s.a()})
}

func (s *step) swap() {
	at, size := s.operand()
	x := s.load(at, size)
	s.store(api.Write{At: at, Size: size, Value: s.a()})
	s.put(x)
}

func (s *step) branch() {
	if alu.Taken(s.ins.Op, s.a(), s.b()) {
		s.jump()
	}
}

// jump makes the target the next PC.
func (s *step) jump() { s.PC, _ = isa.Target(s.here(), s.ins) }

func (s *step) jal() {
	link := s.PC
	s.jump()
	s.put(link)
}

func (s *step) jalr() {
	link := s.PC
	s.PC = s.sum()
	s.put(link)
}

// ecall ends in a trap that comes back to the next instruction.
func (s *step) ecall() { panic(leaving{api.CaCall, 0, s.PC}) }

func (s *step) eret() { s.CPU = trap.Return(s.CPU) }

func (s *step) csrr() {
	x, e := trap.Read(s.CPU, s.ins.Imm, s.pending)
	s.require(e == api.OK)
	s.put(x)
}

func (s *step) csrw() {
	c, e := trap.Write(s.CPU, s.ins.Imm, s.a())
	s.require(e == api.OK)
	s.CPU = c
}

func (s *step) flush() {
	if s.ins.B == 0 {
		s.effect.Flush = api.FlAll
		return
	}
	s.effect.Flush, s.effect.FlushAt = api.FlPage, s.b()
}

func (s *step) wait() { s.Waiting = true }

func (s *step) halt() { s.Halted = true }

func (s *step) in() { s.ask(api.IO{In: true, Port: s.ins.Imm}) }

func (s *step) out() { s.ask(api.IO{Port: s.ins.Imm, Value: s.a()}) }

// ask leaves the rest of the instruction to Answer.
func (s *step) ask(io api.IO) { s.effect.Asks, s.effect.IO = true, io }
