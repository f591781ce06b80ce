package core

import (
	"reflect"
	"slices"
	"testing"

	"simulacrum/api"
	"simulacrum/memory"
	"simulacrum/trap"
)

// sameMem reports whether two memories have the same bytes.
func sameMem(a, b api.Mem) bool { return slices.Equal(a.Pages, b.Pages) }

// same reports whether two effects are the same.
func same(a, b api.Effect) bool {
	if !slices.Equal(a.Writes, b.Writes) || !slices.Equal(a.Accesses, b.Accesses) {
		return false
	}
	a.Writes, a.Accesses, b.Writes, b.Accesses = nil, nil, nil, nil
	return reflect.DeepEqual(a, b)
}

func checkStep(t *testing.T, w world) api.Effect {
	t.Helper()
	before := copied(w.m)
	got := Step(w.c, w.m, w.pending)
	if want := stepRule(w.c, before, w.pending); !same(got, want) {
		t.Fatalf("P12.1, P12.2: Step(%+v, %d pages, %d) =\n%+v, not\n%+v", w.c, len(w.m.Pages), w.pending, got, want)
	}
	if !sameMem(w.m, before) {
		t.Fatalf("P12.1: Step(%+v, %d) has changed the memory", w.c, w.pending)
	}
	return got
}

// checkAnswer compares both answers with the chapter's rule, and looks whether the effect has stayed as it was.
func checkAnswer(t *testing.T, e api.Effect, value uint32) {
	t.Helper()
	before := e
	before.Writes, before.Accesses = slices.Clone(e.Writes), slices.Clone(e.Accesses)
	for _, ok := range []bool{true, false} {
		got, want := Answer(e, value, ok), answerRule(before, value, ok)
		if !same(got, want) {
			t.Fatalf("P12.3: Answer(%+v, %d, %v) =\n%+v, not\n%+v", e, value, ok, got, want)
		}
		if !same(e, before) {
			t.Fatalf("P12.3: Answer(%+v, %d, %v) has changed the effect", before, value, ok)
		}
		if !e.Asks {
			continue
		}
		for k := range got.Accesses {
			got.Accesses[k].At++
		}
		for k := range got.Writes {
			got.Writes[k].At++
		}
		if !same(e, before) {
			t.Fatalf("P12.3: the result of Answer(%+v, %d, %v) is not new memory", before, value, ok)
		}
	}
}

func checkRun(t *testing.T, w world, n int) (api.CPU, api.Mem, int) {
	t.Helper()
	before := copied(w.m)
	c, m, done := Run(w.c, w.m, n)
	wantC, wantM, wantDone := runRule(w.c, before, n)
	if c != wantC || !sameMem(m, wantM) || done != wantDone {
		t.Fatalf("P12.4: Run(%+v, %d) = %+v, %d, not %+v, %d; the pages %v differ", w.c, n, c, done, wantC, wantDone, memory.Diff(m, wantM))
	}
	after := copied(m)
	for k := range m.Pages {
		m.Pages[k][k]++
	}
	if !sameMem(w.m, before) {
		t.Fatalf("P12.4: Run(%+v, %d) has changed the memory, or its result is not new memory", w.c, n)
	}
	return c, after, done
}

func TestConstants(t *testing.T) {
	got := []int{
		api.MaxCount, api.PageSize, api.CoTable, api.CoVector, api.CoEpc, api.CoCause, api.CoValue, api.CoStatus, api.CoPending,
		api.CaCall, api.CaIllegal, api.CaAlign, api.CaFetch, api.CaLoad, api.CaStore, api.CaInterrupt,
		api.AxLoad, api.AxStore, api.AxSwap, api.AxFetch, api.FlNone, api.FlPage, api.FlAll,
	}
	want := []int{1 << 40, 128, 0, 1, 2, 3, 4, 5, 7, 1, 2, 3, 4, 5, 6, 16, 1, 2, 3, 4, 0, 1, 2}
	if !slices.Equal(got, want) {
		t.Errorf("the tests have other numbers than package api: %v, %v", want, got)
	}
}

// boot returns a memory of one page that begins with some instructions, and the processor of the chapter's examples.
func boot(l ...api.Ins) world {
	m := api.Mem{Pages: make([]api.Page, 1)}
	for k, i := range l {
		store(m, 4*k, word(i))
	}
	return world{c: api.CPU{C: [9]uint32{1: 64}}, m: m}
}

func TestExamples(t *testing.T) {
	fetched := api.Access{At: 0, Size: 4}
	w := boot(api.Ins{Op: api.OpAddi, A: 1, Imm: 5})
	want := api.Effect{
		Done: true, Old: w.c, Word: word(api.Ins{Op: api.OpAddi, A: 1, Imm: 5}), Accesses: []api.Access{fetched},
		CPU: api.CPU{PC: 4, R: [16]uint32{1: 5}, C: w.c.C, Count: 1},
	}
	if e := checkStep(t, w); !same(e, want) {
		t.Errorf("addi: %+v", e)
	}
	w = boot(api.Ins{Op: api.OpSw, A: 2, Imm: 8})
	w.c.R[2] = 7
	e := checkStep(t, w)
	if m, _ := memory.Apply(w.m, e.Writes); wordOf(m, 8) != 7 || !slices.Equal(e.Accesses, []api.Access{fetched, {At: 8, Size: 4, Store: true}}) || e.CPU.PC != 4 {
		t.Errorf("sw: %+v", e)
	}
	for _, x := range []struct {
		first, trap, value, epc uint32
	}{
		{word(api.Ins{Op: api.OpLw, A: 1, Imm: 130}), 3, 130, 0},
		{word(api.Ins{Op: api.OpLw, A: 1, Imm: 128}), 5, 128, 0},
		{0, 2, 0, 0},
		{word(api.Ins{Op: api.OpEcall}), 1, 0, 4},
	} {
		w := boot()
		store(w.m, 0, x.first)
		e := checkStep(t, w)
		want := api.CPU{PC: 64, C: [9]uint32{1: 64, 2: x.epc, 3: x.trap, 4: x.value}, Count: 1}
		if e.Trap != int(x.trap) || e.CPU != want || e.Word != x.first || !slices.Equal(e.Accesses, []api.Access{fetched}) || len(e.Writes) != 0 || !e.Done || e.Old != w.c {
			t.Errorf("%d: %+v", x.first, e)
		}
	}
	w = boot(api.Ins{Op: api.OpIn, A: 1, Imm: 33})
	e = checkStep(t, w)
	if !e.Asks || e.IO != (api.IO{In: true, Port: 33}) || e.CPU != (api.CPU{PC: 4, C: w.c.C, Count: 1}) {
		t.Errorf("in: %+v", e)
	}
	if e := Answer(e, 9, true); e.Asks || e.IO != (api.IO{}) || e.CPU != (api.CPU{PC: 4, R: [16]uint32{1: 9}, C: w.c.C, Count: 1}) {
		t.Errorf("in: %+v", e)
	}
}

// wordOf is the word at an address.
func wordOf(m api.Mem, at int) uint32 {
	x, ok := memory.Load(m, at, 4)
	if !ok {
		panic("there is no such word")
	}
	return x
}

// seen counts what steps have done.
type seen struct {
	ops               map[[2]int]int // by operation, without a trap, and by mode
	traps             map[[2]int]int // by cause and mode
	sets, stores, not int
}

func (s *seen) step(e api.Effect) {
	mode := 0
	if e.Old.User {
		mode = 1
	}
	switch {
	case !e.Done:
		s.not++
	case e.Trap != 0:
		s.traps[[2]int{e.Trap, mode}]++
	default:
		s.ops[[2]int{int(e.Word >> 26), mode}]++
	}
	s.stores += len(e.Writes)
	if e.Old.C[0] != 0 {
		s.sets += len(e.Writes)
	}
}

// check looks whether all that steps can do was done often enough.
func (s *seen) check(t *testing.T, least int) {
	t.Helper()
	for _, op := range operations() {
		privileged := op == 41 || op >= 42 && op <= 48
		if op != 40 && s.ops[[2]int{op, 0}] < least || op != 40 && !privileged && s.ops[[2]int{op, 1}] < least {
			t.Errorf("the operation %d was done only %d and %d times", op, s.ops[[2]int{op, 0}], s.ops[[2]int{op, 1}])
		}
		if privileged && s.ops[[2]int{op, 1}] != 0 {
			t.Errorf("P12.1: the operation %d was done in user mode", op)
		}
	}
	for _, cause := range []int{1, 2, 3, 4, 5, 6, 16, 17, 18, 19, 20} {
		if s.traps[[2]int{cause, 0}] < least || s.traps[[2]int{cause, 1}] < least {
			t.Errorf("the trap %d came only %d and %d times", cause, s.traps[[2]int{cause, 0}], s.traps[[2]int{cause, 1}])
		}
	}
	if s.sets < 10*least || s.stores < 10*least || s.not < least {
		t.Errorf("there were only %d stores, %d of them with tables, and %d processors that were not ready", s.stores, s.sets, s.not)
	}
}

func TestSteps(t *testing.T) {
	g := newMaker(120)
	s := seen{ops: map[[2]int]int{}, traps: map[[2]int]int{}}
	for range 20000 {
		e := checkStep(t, g.world())
		s.step(e)
		checkAnswer(t, e, g.Uint32())
	}
	s.check(t, 10)
}

// TestEveryOperation has each operation with every register in each of its fields.
func TestEveryOperation(t *testing.T) {
	g := newMaker(121)
	for _, op := range operations() {
		for range 200 {
			w := g.world()
			w.c.PC, w.c.Waiting, w.c.Halted, w.c.C[0], w.c.C[5] = 0, false, false, 0, 6
			store(w.m, 0, word(g.instruction(op)))
			e := checkStep(t, w)
			if !e.Done || e.Old != w.c || e.CPU.Count != w.c.Count+1 {
				t.Fatalf("P12.1: the step of %d is %+v", op, e)
			}
			checkAnswer(t, e, g.Uint32())
		}
	}
}

// TestEveryWord has words with each value of the highest bits: most of them are illegal, or nearly so.
func TestEveryWord(t *testing.T) {
	g := newMaker(122)
	for op := range uint32(64) {
		for _, low := range []uint32{0, 1, 1 << 13, 1 << 14, 1 << 17, 1 << 18, 1 << 21, 1 << 22, 1 << 25, 1<<26 - 1, g.Uint32() % (1 << 26)} {
			for _, user := range []bool{false, true} {
				w := boot()
				w.c.User = user
				store(w.m, 0, op<<26|low)
				checkAnswer(t, checkStep(t, w), g.Uint32())
			}
		}
	}
}

// TestNotReady has processors that do nothing.
func TestNotReady(t *testing.T) {
	halted, waiting := boot(api.Ins{Op: api.OpHalt}), boot(api.Ins{Op: api.OpHalt})
	halted.c.Halted, waiting.c.Waiting = true, true
	for _, pending := range []uint32{0, 1, 31, 32, 1<<32 - 32, 1<<32 - 1} {
		for _, w := range []world{halted, waiting} {
			for _, status := range []uint32{0, 1, 7} {
				w.c.C[5], w.pending = status, pending
				e := checkStep(t, w)
				if none := w.c.Halted || pending%32 == 0; none && !same(e, api.Effect{CPU: w.c}) || !none && (!e.Done || e.CPU.Waiting) {
					t.Errorf("P12.1: with the lines %d the step of %+v is %+v", pending, w.c, e)
				}
				if c, _, n := checkRun(t, w, 5); c != w.c || n != 0 {
					t.Errorf("P12.4: Run of %+v is %+v, %d", w.c, c, n)
				}
			}
		}
	}
}

// TestInterrupts has each line, alone and with greater ones, and with interrupts off.
func TestInterrupts(t *testing.T) {
	for line := range 5 {
		for _, pending := range []uint32{1 << line, ^uint32(0) << line} {
			for mode := range 4 {
				w := boot(api.Ins{Op: api.OpAddi, A: 1, Imm: 5})
				w.c.C[5], w.c.User, w.c.Waiting, w.pending = 1, mode%2 == 1, mode/2 == 1, pending
				// Interrupts come before all else that may be wrong.
				for _, pc := range []uint32{0, 2, 128, 1<<32 - 1} {
					w.c.PC = pc
					e := checkStep(t, w)
					want := trap.Enter(api.CPU{User: w.c.User, C: [9]uint32{1: 64, 5: 1}, Count: 1}, uint32(16+line), 0, pc)
					if !same(e, api.Effect{Done: true, CPU: want, Old: w.c, Trap: 16 + line}) {
						t.Errorf("P12.1: with the lines %d the step is %+v", pending, e)
					}
				}
				w.c.PC, w.c.C[5] = 0, 6
				if e := checkStep(t, w); e.Trap != 0 || e.CPU.R[1] != 5 || e.CPU.Waiting {
					t.Errorf("P12.1: with interrupts off and the lines %d the step is %+v", pending, e)
				}
			}
		}
	}
}

// TestFetch has addresses from which nothing can be fetched.
func TestFetch(t *testing.T) {
	for _, x := range []struct {
		pc   uint32
		trap int
	}{{1, 3}, {2, 3}, {3, 3}, {126, 3}, {127, 3}, {129, 3}, {130, 3}, {1<<32 - 1, 3}, {128, 4}, {132, 4}, {1 << 31, 4}, {1<<32 - 4, 4}} {
		for _, user := range []bool{false, true} {
			w := boot(api.Ins{Op: api.OpHalt})
			w.c.PC, w.c.User = x.pc, user
			e := checkStep(t, w)
			want := trap.Enter(api.CPU{User: user, C: [9]uint32{1: 64}, Count: 1}, uint32(x.trap), x.pc, x.pc)
			if !same(e, api.Effect{Done: true, CPU: want, Old: w.c, Trap: x.trap}) {
				t.Errorf("P12.1: the step at %d is %+v", x.pc, e)
			}
		}
	}
	w := boot()
	store(w.m, 124, word(api.Ins{Op: api.OpAddi, A: 1, Imm: 5}))
	w.c.PC = 124
	if e := checkStep(t, w); e.CPU.R[1] != 5 || e.CPU.PC != 128 || !slices.Equal(e.Accesses, []api.Access{{At: 124, Size: 4}}) {
		t.Errorf("P12.1: the step at the last word is %+v", e)
	}
}
