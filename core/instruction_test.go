package core

import (
	"slices"
	"testing"

	"simulacrum/api"
)

// TestInstructions has instructions with numbers that were computed by hand, at the address 8 of a memory of two pages, with r2 = 200, r3 = 7 and r4 = 2^32 - 2, and the word 0x81828384 at 200.
func TestInstructions(t *testing.T) {
	const pc = 8
	for _, x := range []struct {
		i     api.Ins
		pc    uint32 // of the next instruction
		r     int    // the register that is another one after it, 0 for none
		value uint32
	}{
		{api.Ins{Op: api.OpAdd, A: 1, B: 2, C: 4}, 12, 1, 198},
		{api.Ins{Op: api.OpSub, A: 1, B: 3, C: 2}, 12, 1, 1<<32 - 193},
		{api.Ins{Op: api.OpAnd, A: 1, B: 2, C: 4}, 12, 1, 200},
		{api.Ins{Op: api.OpOr, A: 1, B: 2, C: 3}, 12, 1, 207},
		{api.Ins{Op: api.OpXor, A: 3, B: 3, C: 4}, 12, 3, 1<<32 - 7},
		{api.Ins{Op: api.OpShl, A: 1, B: 2, C: 3}, 12, 1, 25600},
		{api.Ins{Op: api.OpShr, A: 1, B: 4, C: 3}, 12, 1, 1<<25 - 1},
		{api.Ins{Op: api.OpMul, A: 1, B: 4, C: 3}, 12, 1, 1<<32 - 14},
		{api.Ins{Op: api.OpDiv, A: 1, B: 2, C: 3}, 12, 1, 28},
		{api.Ins{Op: api.OpDiv, A: 1, B: 2, C: 0}, 12, 1, 1<<32 - 1},
		{api.Ins{Op: api.OpRem, A: 2, B: 2, C: 3}, 12, 2, 4},
		{api.Ins{Op: api.OpSlt, A: 1, B: 4, C: 3}, 12, 1, 1},
		{api.Ins{Op: api.OpSltu, A: 2, B: 4, C: 3}, 12, 2, 0},
		{api.Ins{Op: api.OpAdd, A: 0, B: 2, C: 3}, 12, 0, 0},
		{api.Ins{Op: api.OpAddi, A: 1, B: 2, Imm: -201}, 12, 1, 1<<32 - 1},
		{api.Ins{Op: api.OpAddi, A: 4, B: 4, Imm: 3}, 12, 4, 1},
		{api.Ins{Op: api.OpAddi, A: 0, B: 4, Imm: 3}, 12, 0, 0},
		{api.Ins{Op: api.OpHigh, A: 1, Imm: 1}, 12, 1, 16384},
		{api.Ins{Op: api.OpHigh, A: 1, Imm: -1}, 12, 1, 1<<32 - 16384},
		{api.Ins{Op: api.OpHigh, A: 1, Imm: -131072}, 12, 1, 1 << 31},
		{api.Ins{Op: api.OpLw, A: 1, B: 2}, 12, 1, 0x81828384},
		{api.Ins{Op: api.OpLw, A: 2, B: 4, Imm: 202}, 12, 2, 0x81828384},
		{api.Ins{Op: api.OpLw, A: 0, B: 2}, 12, 0, 0},
		{api.Ins{Op: api.OpLb, A: 1, B: 2}, 12, 1, 0x84},
		{api.Ins{Op: api.OpLb, A: 1, B: 2, Imm: 3}, 12, 1, 0x81},
		{api.Ins{Op: api.OpBeq, A: 2, B: 2, Imm: 5}, 28, 0, 0},
		{api.Ins{Op: api.OpBeq, A: 2, B: 3, Imm: 5}, 12, 0, 0},
		{api.Ins{Op: api.OpBne, A: 2, B: 3, Imm: -2}, 0, 0, 0},
		{api.Ins{Op: api.OpBne, A: 2, B: 2, Imm: -2}, 12, 0, 0},
		{api.Ins{Op: api.OpBlt, A: 4, B: 3, Imm: -3}, 1<<32 - 4, 0, 0},
		{api.Ins{Op: api.OpBlt, A: 3, B: 4, Imm: -3}, 12, 0, 0},
		{api.Ins{Op: api.OpBltu, A: 3, B: 4, Imm: 0}, 8, 0, 0},
		{api.Ins{Op: api.OpBltu, A: 4, B: 3, Imm: 0}, 12, 0, 0},
		{api.Ins{Op: api.OpJal, A: 1, Imm: 131071}, 524292, 1, 12},
		{api.Ins{Op: api.OpJal, A: 0, Imm: -1}, 4, 0, 0},
		{api.Ins{Op: api.OpJalr, A: 1, B: 2, Imm: -3}, 197, 1, 12},
		{api.Ins{Op: api.OpJalr, A: 2, B: 2, Imm: 4}, 204, 2, 12},
		{api.Ins{Op: api.OpJalr, A: 0, B: 4, Imm: 2}, 0, 0, 0},
	} {
		for _, user := range []bool{false, true} {
			w := world{c: api.CPU{PC: pc, User: user, Count: 40}, m: api.Mem{Pages: make([]api.Page, 2)}}
			w.c.R[2], w.c.R[3], w.c.R[4] = 200, 7, 1<<32-2
			store(w.m, pc, word(x.i))
			store(w.m, 200, 0x81828384)
			want := w.c
			want.PC, want.Count = x.pc, 41
			want.R[x.r] = x.value
			e := checkStep(t, w)
			if e.CPU != want || e.Trap != 0 || len(e.Writes) != 0 || e.Asks || e.Flush != 0 || e.FlushAt != 0 {
				t.Errorf("P12.2: the step of %+v is %+v", x.i, e)
			}
		}
	}
}

// TestStores has what stores and swap do to the word at 200 of TestInstructions.
func TestStores(t *testing.T) {
	fetched := api.Access{At: 8, Size: 4}
	for _, x := range []struct {
		i      api.Ins
		after  uint32
		r      uint32 // what r5 becomes
		places []api.Access
	}{
		{api.Ins{Op: api.OpSw, A: 5, B: 2}, 0xa1b2c3d4, 0xa1b2c3d4, []api.Access{{At: 200, Size: 4, Store: true}}},
		{api.Ins{Op: api.OpSw, A: 0, B: 4, Imm: 202}, 0, 0xa1b2c3d4, []api.Access{{At: 200, Size: 4, Store: true}}},
		{api.Ins{Op: api.OpSb, A: 5, B: 2, Imm: 1}, 0x8182d484, 0xa1b2c3d4, []api.Access{{At: 201, Size: 1, Store: true}}},
		{api.Ins{Op: api.OpSb, A: 5, B: 2, Imm: 3}, 0xd4828384, 0xa1b2c3d4, []api.Access{{At: 203, Size: 1, Store: true}}},
		{api.Ins{Op: api.OpSwap, A: 5, B: 2}, 0xa1b2c3d4, 0x81828384, []api.Access{{At: 200, Size: 4}, {At: 200, Size: 4, Store: true}}},
		{api.Ins{Op: api.OpSwap, A: 0, B: 2}, 0, 0xa1b2c3d4, []api.Access{{At: 200, Size: 4}, {At: 200, Size: 4, Store: true}}},
		{api.Ins{Op: api.OpSwap, A: 2, B: 2}, 200, 0xa1b2c3d4, []api.Access{{At: 200, Size: 4}, {At: 200, Size: 4, Store: true}}},
	} {
		w := world{c: api.CPU{PC: 8}, m: api.Mem{Pages: make([]api.Page, 2)}}
		w.c.R[2], w.c.R[4], w.c.R[5] = 200, 1<<32-2, 0xa1b2c3d4
		store(w.m, 8, word(x.i))
		store(w.m, 200, 0x81828384)
		want := w.c
		want.PC, want.Count, want.R[5] = 12, 1, x.r
		if x.i.A == 2 {
			want.R[2] = 0x81828384
		}
		e := checkStep(t, w)
		if e.CPU != want || len(e.Writes) != 1 || !slices.Equal(e.Accesses, append([]api.Access{fetched}, x.places...)) {
			t.Errorf("P12.2: the step of %+v is %+v", x.i, e)
		}
		if got := wordOf(after(w.m, e.Writes), 200); got != x.after {
			t.Errorf("P12.2: after %+v the word is %x, not %x", x.i, got, x.after)
		}
	}
}

// TestWrongPlaces has the traps of loads and stores without translation, in a memory of one page.
func TestWrongPlaces(t *testing.T) {
	for op, fault := range map[int]int{api.OpLw: 5, api.OpLb: 5, api.OpSw: 6, api.OpSb: 6, api.OpSwap: 6} {
		for _, address := range []uint32{0, 1, 2, 3, 4, 124, 125, 127, 128, 129, 130, 132, 1<<32 - 1, 1<<32 - 4, 1 << 31} {
			w := boot(api.Ins{Op: op, A: 1, B: 2, Imm: -9})
			w.c.R[1], w.c.R[2], w.c.User = 77, address+9, true
			want := 0
			switch {
			case address%4 != 0 && op != api.OpLb && op != api.OpSb:
				want = 3
			case address >= 128:
				want = fault
			}
			e := checkStep(t, w)
			c := api.CPU{PC: 64, R: w.c.R, C: [9]uint32{1: 64, 2: 0, 3: uint32(want), 4: address, 5: 4}, Count: 1}
			if e.Trap != want || want != 0 && (e.CPU != c || len(e.Writes) != 0 || !slices.Equal(e.Accesses, []api.Access{{At: 0, Size: 4}})) {
				t.Errorf("P12.2: the step of %d to %d is %+v", op, address, e)
			}
		}
	}
}

// TestControls has csrr and csrw of registers, and of others.
func TestControls(t *testing.T) {
	for n := -2; n <= 10; n++ {
		wrong := n < 0 || n > 8
		w := boot(api.Ins{Op: api.OpCsrr, A: 1, Imm: n})
		w.c.C, w.pending = [9]uint32{0, 101, 102, 103, 104, 6, 106, 0, 3}, 1<<32-8
		e := checkStep(t, w)
		if want := append(w.c.C[:7:7], 24, 3); !wrong && (e.CPU.R[1] != want[n] || e.CPU.C != w.c.C || e.CPU.PC != 4 || e.Trap != 0) {
			t.Errorf("P12.2: csrr of %d is %+v", n, e)
		}
		checkRefused(t, w, e, wrong)
		w = boot(api.Ins{Op: api.OpCsrw, A: 1, Imm: n})
		w.c.C, w.c.R[1] = [9]uint32{0, 101, 102, 103, 104, 7, 106, 0, 3}, 77
		e = checkStep(t, w)
		wrong = wrong || n == 7 || n == 8
		if want := w.c.C; !wrong {
			want[n] = 77
			if n == 5 {
				want[n] = 5
			}
			if e.CPU.C != want || e.CPU.R != w.c.R || e.CPU.PC != 4 || e.Trap != 0 {
				t.Errorf("P12.2: csrw of %d is %+v", n, e)
			}
		}
		checkRefused(t, w, e, wrong)
	}
}

// checkRefused looks whether a step at 0 is the trap of an illegal instruction, or not.
func checkRefused(t *testing.T, w world, e api.Effect, want bool) {
	t.Helper()
	if want != (e.Trap == 2) || want && (e.CPU.C[2] != 0 || e.CPU.C[3] != 2 || e.CPU.C[4] != e.Word || e.Word != wordOf(w.m, 0) || e.CPU.PC != w.c.C[1] || e.CPU.R != w.c.R || e.CPU.Count != w.c.Count+1) {
		t.Errorf("P12.2: the step of %d is %+v", wordOf(w.m, 0), e)
	}
}

// TestPrivileged has the instructions of kernel mode in both modes.
func TestPrivileged(t *testing.T) {
	kernel := api.CPU{PC: 4, R: [16]uint32{3: 9, 5: 1000}, C: [9]uint32{1: 64, 2: 44, 5: 2}, Count: 1}
	waits, halts, returned := kernel, kernel, kernel
	waits.Waiting, halts.Halted = true, true
	returned.PC, returned.C[5] = 44, 3
	inUserMode := returned
	inUserMode.User = true
	for _, x := range []struct {
		i      api.Ins
		status uint32
		want   api.Effect
	}{
		{api.Ins{Op: api.OpFlush}, 2, api.Effect{CPU: kernel, Flush: api.FlAll}},
		{api.Ins{Op: api.OpFlush, B: 5}, 2, api.Effect{CPU: kernel, Flush: api.FlPage, FlushAt: 1000}},
		{api.Ins{Op: api.OpFlush, B: 6}, 2, api.Effect{CPU: kernel, Flush: api.FlPage}},
		{api.Ins{Op: api.OpWait}, 2, api.Effect{CPU: waits}},
		{api.Ins{Op: api.OpHalt}, 2, api.Effect{CPU: halts}},
		{api.Ins{Op: api.OpEret}, 2, api.Effect{CPU: returned}},
		{api.Ins{Op: api.OpEret}, 6, api.Effect{CPU: inUserMode}},
		{api.Ins{Op: api.OpIn, A: 3, Imm: 16}, 2, api.Effect{CPU: kernel, Asks: true, IO: api.IO{In: true, Port: 16}}},
		{api.Ins{Op: api.OpIn, A: 3, Imm: -5}, 2, api.Effect{CPU: kernel, Asks: true, IO: api.IO{In: true, Port: -5}}},
		{api.Ins{Op: api.OpOut, A: 3, Imm: 32}, 2, api.Effect{CPU: kernel, Asks: true, IO: api.IO{Port: 32, Value: 9}}},
		{api.Ins{Op: api.OpOut, A: 0, Imm: 131071}, 2, api.Effect{CPU: kernel, Asks: true, IO: api.IO{Port: 131071}}},
	} {
		w := boot(x.i)
		w.c.R, w.c.C = kernel.R, kernel.C
		w.c.C[5] = x.status
		x.want.Done, x.want.Old, x.want.Word, x.want.Accesses = true, w.c, word(x.i), []api.Access{{At: 0, Size: 4}}
		if e := checkStep(t, w); !same(e, x.want) {
			t.Errorf("P12.2: the step of %+v is %+v", x.i, e)
		}
		w.c.User = true
		e := checkStep(t, w)
		checkRefused(t, w, e, true)
		if e.Asks || e.Flush != 0 || e.CPU.Waiting || e.CPU.Halted || e.CPU.User || e.CPU.C[5] != 4 {
			t.Errorf("P12.1: in user mode the step of %+v is %+v", x.i, e)
		}
	}
}

// TestWoken has a processor that waits, a line, and interrupts that are off: it goes on with an instruction, which may be another wait.
func TestWoken(t *testing.T) {
	for op, waits := range map[int]bool{api.OpWait: true, api.OpEcall: false, api.OpEret: false, api.OpHalt: false, api.OpIn: false} {
		w := boot(api.Ins{Op: op})
		w.c.Waiting, w.pending = true, 16
		e := checkStep(t, w)
		if !e.Done || e.CPU.Waiting != waits || e.CPU.Halted != (op == api.OpHalt) || !e.Old.Waiting {
			t.Errorf("P12.1: the step of %d is %+v", op, e)
		}
	}
}

// TestAnswers has answers to in and out, for several registers, and to effects that do not ask.
func TestAnswers(t *testing.T) {
	for _, op := range []int{api.OpIn, api.OpOut} {
		for a := range 16 {
			w := boot()
			w.c.PC, w.c.Count, w.c.C[5] = 8, 30, 1
			for n := range 15 {
				w.c.R[1+n] = uint32(100 + n)
			}
			store(w.m, 8, word(api.Ins{Op: op, A: a, Imm: 40}))
			e := checkStep(t, w)
			checkAnswer(t, e, 1<<32-1)
			want := w.c
			want.PC, want.Count = 12, 31
			if op == api.OpIn && a != 0 {
				want.R[a] = 9
			}
			fetched := []api.Access{{At: 8, Size: 4}}
			if got := Answer(e, 9, true); !same(got, api.Effect{Done: true, CPU: want, Old: w.c, Word: e.Word, Accesses: fetched}) {
				t.Errorf("P12.3: the answer to %d with the register %d is %+v", op, a, got)
			}
			want = api.CPU{PC: 64, R: w.c.R, C: [9]uint32{1: 64, 2: 8, 3: 2, 4: e.Word, 5: 2}, Count: 31}
			if got := Answer(e, 9, false); !same(got, api.Effect{Done: true, CPU: want, Old: w.c, Word: e.Word, Accesses: fetched, Trap: 2}) {
				t.Errorf("P12.3: the refusal of %d with the register %d is %+v", op, a, got)
			}
			// An effect asks once.
			checkAnswer(t, Answer(e, 9, true), 5)
			checkAnswer(t, Answer(e, 9, false), 5)
		}
	}
	for _, w := range []world{boot(), boot(api.Ins{Op: api.OpAddi, A: 1}), boot(api.Ins{Op: api.OpHalt})} {
		e := checkStep(t, w)
		for _, ok := range []bool{false, true} {
			if got := Answer(e, 9, ok); !same(got, e) {
				t.Errorf("P12.3: the answer to %+v is %+v", e, got)
			}
		}
	}
}
