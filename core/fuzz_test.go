package core

import (
	"testing"

	"simulacrum/api"
	"simulacrum/trap"
)

// FuzzSteps looks for processors, words and lines with which a function panics (P1), or has another result than the chapter's rules (P12.1 to P12.7).
func FuzzSteps(f *testing.F) {
	for n, op := range operations() {
		f.Add(int64(n), word(api.Ins{Op: op}), uint32(4*n), uint32(n), uint16(4*n), uint32(1), n, []byte(nil))
	}
	f.Add(int64(40), word(api.Ins{Op: api.OpSwap, A: 1, B: 2, Imm: 4}), uint32(1<<31), uint32(1<<32-1), uint16(264), uint32(259), 100, trap.Encode(trap.Begin(3, 64)))
	f.Fuzz(func(t *testing.T, seed int64, first, register, pending uint32, at uint16, x uint32, n int, cpu []byte) {
		g := newMaker(seed)
		w := g.world()
		w.pending ^= pending
		if c, e := trap.Decode(cpu); e == api.OK && c.Count < api.MaxCount {
			w.c = c
		}
		if pc := int(w.c.PC); pc%4 == 0 && pc < 128*len(w.m.Pages) && w.c.C[0] == 0 {
			store(w.m, pc, first)
		}
		store(w.m, int(at)/4*4%(128*len(w.m.Pages)), x)
		w.c.R[1+g.Intn(15)] = register
		checkLaws(t, g, w)
		checkAnswer(t, checkStep(t, w), register)
		w.c.Count = min(w.c.Count, api.MaxCount-200)
		checkRun(t, w, n%200)
		s := g.sequence()
		store(s.m, int(s.c.PC), first)
		store(s.m, int(at)/4*4%8192, x)
		checkRun(t, s, n%200)
	})
}
