package trap

import (
	"testing"

	"simulacrum/api"
	"simulacrum/wire"
)

// checkLeft checks P11.7: what Return of Enter of a processor that does not wait is.
func checkLeft(t *testing.T, c api.CPU, cause, value, epc uint32) {
	t.Helper()
	if c.Waiting {
		return
	}
	want := c
	want.PC = epc
	want.C[2], want.C[3], want.C[4] = epc, cause, value
	want.C[5] = c.C[5]%2 + 2
	if got := Return(Enter(c, cause, value, epc)); got != want {
		t.Fatalf("P11.7: Return(Enter(%+v, %d, %d, %d)) = %+v, not %+v", c, cause, value, epc, got, want)
	}
}

func TestLeft(t *testing.T) {
	g := newMaker(120)
	for _, c := range g.cpus(3000) {
		checkLeft(t, c, g.word(), g.word(), g.word())
	}
}

// mustWrite is Write of a register that can be written.
func mustWrite(t *testing.T, c api.CPU, n int, x uint32) api.CPU {
	t.Helper()
	c, e := checkWrite(t, c, n, x)
	if e != api.OK {
		t.Fatalf("P11.4: Write of the register %d has the error %d", n, e)
	}
	return c
}

// nested enters a trap, saves Epc and Status, has further traps inside, restores both, and leaves the trap.
func nested(t *testing.T, g maker, c api.CPU, depth int) api.CPU {
	t.Helper()
	c = checkEnter(t, c, g.word(), g.word(), c.PC)
	epc, _ := Read(c, 2, 0)
	status, _ := Read(c, 5, 0)
	for range depth {
		c.PC, c.User = g.word(), g.Intn(2) == 0
		c = mustWrite(t, c, 5, g.word())
		before := c
		c = nested(t, g, c, depth-1)
		if c.PC != before.PC || c.User != before.User || c.C[5]%2 != before.C[5]%2 {
			t.Fatalf("P11.7: %+v has become %+v", before, c)
		}
	}
	c.User = false
	return checkReturn(t, mustWrite(t, mustWrite(t, c, 2, epc), 5, status))
}

func TestNested(t *testing.T) {
	g := newMaker(121)
	for _, c := range g.cpus(100) {
		if c.Waiting {
			continue
		}
		got := nested(t, g, c, 4)
		want := c
		copy(want.C[2:5], got.C[2:5])
		want.C[5] = c.C[5]%2 + 2
		if got != want {
			t.Fatalf("P11.7: after nested traps %+v is %+v", c, got)
		}
	}
}

// checkDue checks P11.8.
func checkDue(t *testing.T, g maker, c api.CPU, pending uint32) {
	t.Helper()
	if n, is := Due(Enter(c, g.word(), g.word(), g.word()), pending); n != 0 || is {
		t.Fatalf("P11.8: in a trap of %+v, with %d, the line %d is due", c, pending, n)
	}
	n, is := Due(c, pending)
	if is && (n < 0 || n > 4 || pending>>n%2 == 0 || pending%(1<<n) != 0) {
		t.Fatalf("P11.8: of %d the line %d is due", pending, n)
	}
	if !Ready(c, pending) && !c.Halted && is {
		t.Fatalf("P11.8: %+v is not ready, but the line %d of %d is due", c, n, pending)
	}
}

func TestDue(t *testing.T) {
	g := newMaker(122)
	for _, c := range g.cpus(200) {
		for _, pending := range append(lineSets(), g.word()) {
			checkDue(t, g, c, pending)
		}
	}
}

// checkKept checks P11.9: a changed processor is valid, and has the same Count and R.
func checkKept(t *testing.T, what string, before, after api.CPU) {
	t.Helper()
	if !Valid(after) || after.Count != before.Count || after.R != before.R {
		t.Fatalf("P11.9: %s makes %+v of %+v", what, after, before)
	}
}

func TestKept(t *testing.T) {
	g := newMaker(123)
	for _, c := range g.cpus(100) {
		for range 50 {
			before := c
			c = Enter(c, g.word(), g.word(), g.word())
			checkKept(t, "Enter", before, c)
			before = c
			c, _ = Write(c, g.Intn(11)-1, g.word())
			checkKept(t, "Write", before, c)
			before = c
			c = Return(c)
			checkKept(t, "Return", before, c)
		}
	}
}

// TestEveryCallReturns has arguments of all kinds, also those for which nothing is specified (P1).
func TestEveryCallReturns(t *testing.T) {
	defer func() {
		if r := recover(); r != nil {
			t.Errorf("P1: a call panics: %v", r)
		}
	}()
	g := newMaker(124)
	for _, n := range registers() {
		Begin(n, uint32(n))
		for range 100 {
			c := g.wrong()
			Valid(c)
			Enter(c, g.word(), g.word(), g.word())
			Return(c)
			Read(c, n, g.word())
			Write(c, n, g.word())
			Due(c, g.word())
			Ready(c, g.word())
			Encode(c)
			Decode(wire.Ints([]int{n}))
			Decode(append(wire.Int(n), Encode(c)...))
		}
	}
}
