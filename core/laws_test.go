package core

import (
	"slices"
	"testing"

	"simulacrum/api"
	"simulacrum/memory"
	"simulacrum/table"
	"simulacrum/trap"
)

// checkSound has P12.5: a step returns a valid processor, and stores that can be done, which are the accesses that store.
func checkSound(t *testing.T, w world, e api.Effect) {
	t.Helper()
	if !trap.Valid(e.CPU) {
		t.Fatalf("P12.5: Step(%+v, %d) = %+v, which is not valid", w.c, w.pending, e.CPU)
	}
	if _, ok := memory.Apply(w.m, e.Writes); !ok {
		t.Fatalf("P12.5: Step(%+v, %d) has the stores %+v", w.c, w.pending, e.Writes)
	}
	var stores []api.Access
	for _, a := range e.Accesses {
		if _, ok := memory.Load(w.m, a.At, a.Size); !ok {
			t.Fatalf("P12.5: Step(%+v, %d) has the access %+v", w.c, w.pending, a)
		}
		if a.Store {
			stores = append(stores, a)
		}
	}
	if !slices.EqualFunc(stores, e.Writes, func(a api.Access, w api.Write) bool { return a.At == w.At && a.Size == w.Size }) {
		t.Fatalf("P12.1: Step(%+v, %d) has the stores %+v, and the accesses %+v", w.c, w.pending, e.Writes, e.Accesses)
	}
}

// checkPlaces has P12.6: with other bytes where a step has no access it does the same.
func checkPlaces(t *testing.T, g maker, w world, e api.Effect) {
	t.Helper()
	other := api.Mem{Pages: make([]api.Page, len(w.m.Pages))}
	kind := g.Intn(3)
	for n := range other.Pages {
		for k := range other.Pages[n] {
			other.Pages[n][k] = in(g, 0, w.m.Pages[n][k]^255, byte(g.Uint32()))
			if kind == 1 {
				other.Pages[n][k] = ^w.m.Pages[n][k]
			}
		}
	}
	for _, a := range e.Accesses {
		for at := a.At; at < a.At+a.Size; at++ {
			other.Pages[at/128][at%128] = w.m.Pages[at/128][at%128]
		}
	}
	lines := w.pending ^ g.Uint32()&^31 // other bits than those of lines do not matter
	if got := Step(w.c, other, lines); !same(got, e) {
		t.Fatalf("P12.6: Step(%+v, %d) = %+v, and with other bytes elsewhere %+v", w.c, w.pending, e, got)
	}
}

// checkUser has P12.7.
func checkUser(t *testing.T, w world, e api.Effect) {
	t.Helper()
	if e.Trap != 0 && (e.CPU.User || e.CPU.C[5]%2 == 1) {
		t.Fatalf("P12.7: the trap of Step(%+v, %d) leads to %+v", w.c, w.pending, e.CPU)
	}
	if !e.Done || !w.c.User || w.c.C[0] == 0 || e.Trap != 0 {
		return
	}
	if e.Asks || e.Flush != 0 || e.CPU.C != w.c.C || !e.CPU.User {
		t.Fatalf("P12.7: in user mode Step(%+v, %d) = %+v", w.c, w.pending, e)
	}
	allowed := map[int]bool{} // pages
	for _, x := range table.List(w.m, w.c.C[0]) {
		pages := 1
		if x.Bits&64 != 0 {
			pages = 32
		}
		for k := range pages {
			if x.Bits&6 == 6 {
				allowed[int(x.PA)/128+k] = true
			}
		}
	}
	entries := entriesOf(w)
	for _, s := range e.Writes {
		before, _ := memory.Load(w.m, s.At&^3, 4)
		bits := s.Size == 4 && entries[s.At] && (s.Value^before)&^48 == 0
		if !allowed[s.At/128] && !bits {
			t.Fatalf("P12.7: in user mode Step(%+v, %d) stores %+v", w.c, w.pending, s)
		}
	}
}

// entriesOf returns the addresses of the entries that the tables of a processor have.
func entriesOf(w world) map[int]bool {
	out := map[int]bool{}
	root := int(w.c.C[0])
	if root%128 != 0 || root >= 128*len(w.m.Pages) {
		return out
	}
	for k := range 32 {
		out[root+4*k] = true
		first := wordOf(w.m, root+4*k)
		if second := int(first) &^ 127; first&65 == 1 && second < 128*len(w.m.Pages) {
			for n := range 32 {
				out[second+4*n] = true
			}
		}
	}
	return out
}

// checkLaws has P12.5 to P12.7 for one step, and for what Answer makes of it.
func checkLaws(t *testing.T, g maker, w world) {
	t.Helper()
	e := checkStep(t, w)
	checkPlaces(t, g, w, e)
	for _, e := range []api.Effect{e, Answer(e, g.Uint32(), true), Answer(e, g.Uint32(), false)} {
		checkSound(t, w, e)
		checkUser(t, w, e)
	}
}

func TestLaws(t *testing.T) {
	g := newMaker(124)
	for range 12000 {
		checkLaws(t, g, g.world())
	}
}

// TestLongLaws has P12.5 to P12.7 for the steps of longer runs.
func TestLongLaws(t *testing.T) {
	g := newMaker(125)
	user := 0
	for range 150 {
		w := g.sequence()
		for range 100 {
			checkLaws(t, g, w)
			e := Answer(Step(w.c, w.m, w.pending), g.Uint32(), g.Intn(2) == 0)
			if e.Done && w.c.User && e.Trap == 0 && len(e.Writes) > 0 && w.c.C[0] != 0 {
				user++
			}
			w.c, w.m, w.pending = e.CPU, after(w.m, e.Writes), uint32(in(g, 0, 0, 0, 1<<g.Intn(6)))
			w.c.Halted = false
			if e.Trap != 0 { // the program goes on elsewhere
				w.c.PC, w.c.User = uint32(4*g.Intn(900)), g.Intn(4) > 0
			}
		}
	}
	if user < 30 {
		t.Errorf("P12.7: only %d steps in user mode had stores", user)
	}
}

// TestAnyPlace has P12.7 for a task that stores everywhere: its tables give it one page.
func TestAnyPlace(t *testing.T) {
	for at := range uint32(1 << 10) {
		for _, op := range []int{api.OpSw, api.OpSb, api.OpSwap} {
			w := mapped(api.Ins{Op: op, A: 1, B: 2})
			w.c.User, w.c.R[2] = true, at
			e := checkStep(t, w)
			checkUser(t, w, e)
			aligned := at%4 == 0 || op == api.OpSb
			switch is := e.Trap == 0; {
			case is != (aligned && at < 256):
				t.Fatalf("P12.7: the store to %d has the trap %d", at, e.Trap)
			case is && e.Writes[len(e.Writes)-1].At != int([]uint32{384, 512}[at/128]+at%128):
				t.Fatalf("P12.7: the store to %d has the stores %+v", at, e.Writes)
			}
		}
	}
}

// TestParts has P12.8: a run in parts is the run of all of them together.
func TestParts(t *testing.T) {
	g := newMaker(126)
	whole := 0
	for range 200 {
		w := g.sequence()
		first, second := g.Intn(60), g.Intn(60)
		c, m, n := Run(w.c, w.m, first)
		if n < first {
			continue
		}
		c, m, more := Run(c, m, second)
		wantC, wantM, want := Run(w.c, w.m, first+second)
		if c != wantC || !sameMem(m, wantM) || n+more != want {
			t.Fatalf("P12.8: Run of %d steps and of %d is %+v, of both together %+v", first, second, c, wantC)
		}
		if more > 0 {
			whole++
		}
	}
	if whole < 40 {
		t.Errorf("P12.8: only %d runs went on", whole)
	}
}

// TestEveryCallReturns has arguments of all kinds, also those for which nothing is specified (P1).
func TestEveryCallReturns(t *testing.T) {
	defer func() {
		if r := recover(); r != nil {
			t.Errorf("P1: a call panics: %v", r)
		}
	}()
	g := newMaker(127)
	for range 3000 {
		w := g.world()
		w.m.Pages = w.m.Pages[:g.Intn(len(w.m.Pages)+1)]
		switch g.Intn(8) {
		case 0:
			w.m.Pages = make([]api.Page, 65+g.Intn(10))
		case 1:
			w.c.R[0] = g.Uint32()
		case 2:
			w.c.C[5], w.c.C[7], w.c.C[8] = g.Uint32(), g.Uint32(), g.Uint32()
		case 3:
			w.c.Count = in(g, -1<<63, -1, 1<<40, 1<<40+1, 1<<63-1)
		case 4:
			w.c.Waiting, w.c.Halted = true, true
		}
		e := Step(w.c, w.m, g.Uint32())
		e.Asks, e.Word = true, g.any()
		for _, ok := range []bool{false, true} {
			Answer(e, g.Uint32(), ok)
			Answer(api.Effect{Asks: true, IO: api.IO{In: ok}, Word: g.Uint32()}, g.Uint32(), ok)
		}
		Run(w.c, w.m, in(g, -1<<63, -1, g.Intn(20)))
	}
}
