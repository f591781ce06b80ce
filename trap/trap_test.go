package trap

import (
	"slices"
	"testing"

	"simulacrum/api"
	"simulacrum/wire"
)

func checkValid(t *testing.T, c api.CPU) {
	t.Helper()
	if got, want := Valid(c), validRule(c); got != want {
		t.Fatalf("P11.1: Valid(%+v) = %v, not %v", c, got, want)
	}
}

func checkEnter(t *testing.T, c api.CPU, cause, value, epc uint32) api.CPU {
	t.Helper()
	got := Enter(c, cause, value, epc)
	if want := enterRule(c, cause, value, epc); got != want {
		t.Fatalf("P11.2: Enter(%+v, %d, %d, %d) = %+v, not %+v", c, cause, value, epc, got, want)
	}
	return got
}

func checkReturn(t *testing.T, c api.CPU) api.CPU {
	t.Helper()
	got := Return(c)
	if want := returnRule(c); got != want {
		t.Fatalf("P11.3: Return(%+v) = %+v, not %+v", c, got, want)
	}
	return got
}

func checkRead(t *testing.T, c api.CPU, n int, pending uint32) {
	t.Helper()
	got, e := Read(c, n, pending)
	if want, wantE := readRule(c, n, pending); got != want || e != wantE {
		t.Fatalf("P11.4: Read(%+v, %d, %d) = %d, %d, not %d, %d", c, n, pending, got, e, want, wantE)
	}
}

func checkWrite(t *testing.T, c api.CPU, n int, x uint32) (api.CPU, api.Errno) {
	t.Helper()
	got, e := Write(c, n, x)
	if want, wantE := writeRule(c, n, x); got != want || e != wantE {
		t.Fatalf("P11.4: Write(%+v, %d, %d) = %+v, %d, not %+v, %d", c, n, x, got, e, want, wantE)
	}
	return got, e
}

func checkLines(t *testing.T, c api.CPU, pending uint32) {
	t.Helper()
	got, is := Due(c, pending)
	if want, wantIs := dueRule(c, pending); got != want || is != wantIs {
		t.Fatalf("P11.5: Due(%+v, %d) = %d, %v, not %d, %v", c, pending, got, is, want, wantIs)
	}
	if got, want := Ready(c, pending), readyRule(c, pending); got != want {
		t.Fatalf("P11.5: Ready(%+v, %d) = %v, not %v", c, pending, got, want)
	}
}

func checkEncode(t *testing.T, c api.CPU) []byte {
	t.Helper()
	got := Encode(c)
	if want := wire.Ints(numbersRule(c)); !slices.Equal(got, want) {
		t.Fatalf("P11.6: Encode(%+v) = %v, not %v", c, got, want)
	}
	return got
}

func checkDecode(t *testing.T, b []byte) (api.CPU, api.Errno) {
	t.Helper()
	before := slices.Clone(b)
	got, e := Decode(b)
	if want, wantE := decodeRule(b); got != want || e != wantE {
		t.Fatalf("P11.6: Decode(%v) = %+v, %d, not %+v, %d", b, got, e, want, wantE)
	}
	if !slices.Equal(b, before) {
		t.Fatalf("P11.6: Decode has changed its argument %v", before)
	}
	return got, e
}

func TestConstants(t *testing.T) {
	got := []int{
		api.Regs, api.Controls, api.MaxCPUs, api.MaxCount, api.Lines, api.StOn, api.StWas, api.StUser,
		api.CoTable, api.CoVector, api.CoEpc, api.CoCause, api.CoValue, api.CoStatus, api.CoScratch, api.CoPending, api.CoID,
		int(api.ErrArg), int(api.ErrEncoding),
	}
	want := []int{16, 9, 4, 1 << 40, 5, 1, 2, 4, 0, 1, 2, 3, 4, 5, 6, 7, 8, 1, 11}
	if !slices.Equal(got, want) {
		t.Errorf("the tests have other numbers than package api: %v, %v", want, got)
	}
	for _, c := range append(corners(), newMaker(110).wrong()) {
		if again := partsOf(c).cpu(); again != c {
			t.Errorf("the parts of %+v are those of %+v", c, again)
		}
	}
}

func TestExamples(t *testing.T) {
	if c := Begin(0, 64); c != (api.CPU{PC: 64}) {
		t.Errorf("P11.1: Begin(0, 64) = %+v", c)
	}
	if c := Begin(2, 64); c != (api.CPU{PC: 64, Waiting: true, C: [9]uint32{8: 2}}) {
		t.Errorf("P11.1: Begin(2, 64) = %+v", c)
	}
	c := Enter(api.CPU{User: true, C: [9]uint32{1: 128, 5: 1}}, 5, 9, 4)
	if c != (api.CPU{PC: 128, C: [9]uint32{1: 128, 2: 4, 3: 5, 4: 9, 5: 6}}) {
		t.Errorf("P11.2: Enter is %+v", c)
	}
	if c := Return(c); c != (api.CPU{PC: 4, User: true, C: [9]uint32{1: 128, 2: 4, 3: 5, 4: 9, 5: 3}}) {
		t.Errorf("P11.3: Return is %+v", c)
	}
	on := api.CPU{C: [9]uint32{5: 1}}
	for _, x := range []struct {
		pending uint32
		line    int
		is      bool
	}{{6, 1, true}, {32, 0, false}, {0, 0, false}} {
		if line, is := Due(on, x.pending); line != x.line || is != x.is {
			t.Errorf("P11.5: Due with %d is %d, %v", x.pending, line, is)
		}
	}
	for _, x := range []struct {
		n    int
		x    uint32
		want api.CPU
		e    api.Errno
	}{
		{7, 1, on, api.ErrArg},
		{5, 255, api.CPU{C: [9]uint32{5: 7}}, api.OK},
		{9, 1, on, api.ErrArg},
	} {
		if c, e := Write(on, x.n, x.x); c != x.want || e != x.e {
			t.Errorf("P11.4: Write of %d with %d is %+v, %d", x.n, x.x, c, e)
		}
	}
}

func TestBegin(t *testing.T) {
	for id := range 4 {
		for _, entry := range []uint32{0, 1, 4, 64, 8188, 8192, 1 << 31, 1<<32 - 1} {
			c := Begin(id, entry)
			if want := beginRule(id, entry); c != want || !Valid(c) {
				t.Errorf("P11.1: Begin(%d, %d) = %+v, not %+v", id, entry, c, want)
			}
		}
	}
}

func TestValid(t *testing.T) {
	right := api.CPU{PC: 1<<32 - 1, User: true, Count: 1 << 40, C: [9]uint32{1<<32 - 1, 1<<32 - 1, 1<<32 - 1, 1<<32 - 1, 1<<32 - 1, 7, 1<<32 - 1, 0, 3}}
	for n := range 15 {
		right.R[1+n] = 1<<32 - 1
	}
	for i, x := range []struct {
		change func(c *api.CPU)
		want   bool
	}{
		{func(c *api.CPU) {}, true},
		{func(c *api.CPU) { c.R[0] = 1 }, false},
		{func(c *api.CPU) { c.R[0] = 1 << 31 }, false},
		{func(c *api.CPU) { c.C[5] = 8 }, false},
		{func(c *api.CPU) { c.C[5] = 1 << 31 }, false},
		{func(c *api.CPU) { c.C[5] = 0 }, true},
		{func(c *api.CPU) { c.C[7] = 1 }, false},
		{func(c *api.CPU) { c.C[7] = 1 << 31 }, false},
		{func(c *api.CPU) { c.C[8] = 4 }, false},
		{func(c *api.CPU) { c.C[8] = 1 << 31 }, false},
		{func(c *api.CPU) { c.C[8] = 0 }, true},
		{func(c *api.CPU) { c.Count++ }, false},
		{func(c *api.CPU) { c.Count = 0 }, true},
		{func(c *api.CPU) { c.Count = -1 }, false},
		{func(c *api.CPU) { c.Waiting = true }, true},
		{func(c *api.CPU) { c.Halted = true }, true},
		{func(c *api.CPU) { c.Waiting, c.Halted = true, true }, false},
		{func(c *api.CPU) { c.User, c.Waiting, c.Halted = false, true, true }, false},
	} {
		c := right
		x.change(&c)
		if Valid(c) != x.want {
			t.Errorf("P11.1: Valid of the processor %d, %+v, is not %v", i, c, x.want)
		}
	}
	g := newMaker(111)
	for _, c := range g.cpus(2000) {
		checkValid(t, c)
		checkValid(t, g.wrong())
		if !Valid(c) || Valid(g.wrong()) {
			t.Fatalf("P11.1: Valid(%+v), or a processor that is not valid is", c)
		}
	}
}

func TestEnterAndReturn(t *testing.T) {
	g := newMaker(112)
	for _, c := range g.cpus(3000) {
		checkEnter(t, c, 1000, 1001, 1002)
		checkReturn(t, checkEnter(t, c, g.word(), g.word(), g.word()))
		checkReturn(t, c)
	}
}

func TestControls(t *testing.T) {
	g := newMaker(113)
	for _, c := range g.cpus(200) {
		for _, n := range registers() {
			for _, x := range []uint32{0, 1, 2, 3, 4, 5, 6, 7, 8, 255, 1 << 31, 1<<32 - 1, g.word()} {
				checkRead(t, c, n, x)
				after, e := checkWrite(t, c, n, x)
				if x, f := Read(after, n, 0); e == api.OK && (f != api.OK || x != after.C[n]) {
					t.Fatalf("P11.4: the register %d reads as %d, %d", n, x, f)
				}
			}
		}
	}
	for _, pending := range lineSets() {
		checkRead(t, api.CPU{}, 7, pending)
		checkRead(t, corners()[3], 7, pending)
	}
}

func TestLines(t *testing.T) {
	g := newMaker(114)
	for _, c := range g.cpus(300) {
		for _, pending := range append(lineSets(), g.word()) {
			checkLines(t, c, pending)
		}
	}
}

// TestFirstLine has each line alone, and with all that are greater.
func TestFirstLine(t *testing.T) {
	on := api.CPU{C: [9]uint32{5: 1}}
	for n := range 5 {
		for _, pending := range []uint32{1 << n, ^uint32(0) << n} {
			if line, is := Due(on, pending); line != n || !is {
				t.Errorf("P11.5: Due with %d is %d, %v", pending, line, is)
			}
		}
	}
}
