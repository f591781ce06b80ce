package lines

import (
	"slices"
	"testing"

	"simulacrum/api"
)

func checkValid(t *testing.T, c api.Control) {
	t.Helper()
	if got, want := Valid(c), validRule(c); got != want {
		t.Fatalf("P13.1: Valid(%+v) = %v, not %v", c, got, want)
	}
}

func checkRaise(t *testing.T, c api.Control, line, cpu int) api.Control {
	t.Helper()
	got := Raise(c, line, cpu)
	if want := raiseRule(c, line, cpu); got != want {
		t.Fatalf("P13.2: Raise(%+v, %d, %d) = %+v, not %+v", c, line, cpu, got, want)
	}
	if again := Raise(got, line, cpu); again != got {
		t.Fatalf("P13.2: Raise(%+v, %d, %d) once more is %+v", c, line, cpu, again)
	}
	return got
}

func checkPending(t *testing.T, c api.Control) {
	t.Helper()
	for cpu := range c.CPUs {
		if got, want := Pending(c, cpu), pendingRule(c, cpu); got != want {
			t.Fatalf("P13.3: Pending(%+v, %d) = %d, not %d", c, cpu, got, want)
		}
	}
}

func checkPort(t *testing.T, c api.Control, cpu int, io api.IO) api.Control {
	t.Helper()
	got, x, e := Port(c, cpu, io)
	if want, wantX, wantE := portRule(c, cpu, io); got != want || x != wantX || e != wantE {
		t.Fatalf("P13.4: Port(%+v, %d, %+v) = %+v, %d, %d, not %+v, %d, %d", c, cpu, io, got, x, e, want, wantX, wantE)
	}
	return got
}

func TestConstants(t *testing.T) {
	got := []int{
		api.MaxCPUs, api.Lines, api.LiClock, api.LiConsole, api.LiBlock, api.LiNet, api.LiSignal,
		api.PoMask, api.PoPending, api.PoAck, api.PoSignal, api.PoRoute,
		int(api.OK), int(api.ErrArg), int(api.ErrName), int(api.ErrEncoding),
	}
	want := []int{4, 5, 0, 1, 2, 3, 4, 0, 1, 2, 3, 4, 0, 1, 5, 11}
	if !slices.Equal(got, want) {
		t.Errorf("the tests have other numbers than package api: %v, %v", want, got)
	}
	if l := []lineNumber{clock, console, block, net, signal, end}; !slices.Equal(l, []lineNumber{0, 1, 2, 3, 4, 5}) {
		t.Errorf("the lines are %v", l)
	}
	g := newMaker(130)
	for _, c := range append(g.controls(100), api.Control{}) {
		if again := partsOf(c).control(); again != c {
			t.Errorf("the parts of %+v are those of %+v", c, again)
		}
	}
}

// TestExamples has the chapter's examples, one after the other.
func TestExamples(t *testing.T) {
	c, e := New(2)
	if c != (api.Control{CPUs: 2}) || e != api.OK {
		t.Fatalf("P13.1: New(2) = %+v, %d", c, e)
	}
	out := func(cpu, port int, x uint32) {
		t.Helper()
		after, y, e := Port(c, cpu, api.IO{Port: port, Value: x})
		if y != 0 || e != api.OK {
			t.Fatalf("P13.4: out %d with %d by %d returns %d, %d", port, x, cpu, y, e)
		}
		c = after
	}
	pending := func(cpu int, want uint32) {
		t.Helper()
		if got := Pending(c, cpu); got != want {
			t.Fatalf("P13.3: Pending of %d is %d, not %d", cpu, got, want)
		}
	}
	out(1, api.PoMask, 31)
	c = Raise(c, api.LiBlock, 1)
	pending(0, 0)
	pending(1, 0)
	out(1, api.PoRoute, 33)
	c = Raise(c, api.LiBlock, 0)
	pending(1, 4)
	out(1, api.PoAck, 2)
	pending(1, 0)
	out(0, api.PoSignal, 1)
	pending(1, 16)
	if after, x, e := Port(c, 1, api.IO{In: true, Port: api.PoPending}); after != c || x != 16 || e != api.OK {
		t.Errorf("P13.4: in PoPending by 1 returns %+v, %d, %d", after, x, e)
	}
	out(0, api.PoMask, 4)
	pending(0, 4)
	for _, io := range []api.IO{{In: true, Port: api.PoAck}, {Port: api.PoPending}, {In: true, Port: 5}} {
		if after, x, e := Port(c, 0, io); after != c || x != 0 || e != api.ErrName {
			t.Errorf("P13.4: %+v returns %+v, %d, %d", io, after, x, e)
		}
	}
	if want := (api.Control{CPUs: 2, Raised: [4]uint32{4, 16}, Mask: [4]uint32{4, 31}, Route: [5]int{2: 1}}); c != want {
		t.Errorf("P13.4: the control is %+v", c)
	}
}

func TestNew(t *testing.T) {
	for _, cpus := range []int{-1 << 63, -1<<32 + 1, -4, -1, 0, 1, 2, 3, 4, 5, 6, 8, 64, 1 << 32, 1<<32 + 1, 1<<63 - 1} {
		got, e := New(cpus)
		if want, wantE := newRule(cpus); got != want || e != wantE || Valid(got) != (e == api.OK) {
			t.Errorf("P13.1: New(%d) = %+v, %d, not %+v, %d", cpus, got, e, want, wantE)
		}
	}
}

func TestValid(t *testing.T) {
	right := api.Control{CPUs: 3, Raised: [4]uint32{31, 31, 31}, Mask: [4]uint32{31, 31, 31}, Route: [5]int{0, 2, 2, 2, 0}}
	for i, x := range []struct {
		change func(c *api.Control)
		want   bool
	}{
		{func(c *api.Control) {}, true},
		{func(c *api.Control) { c.CPUs = 4 }, true},
		{func(c *api.Control) { c.CPUs = 5 }, false},
		{func(c *api.Control) { c.CPUs = 2 }, false},
		{func(c *api.Control) { *c = api.Control{} }, false},
		{func(c *api.Control) { *c = api.Control{CPUs: 1} }, true},
		{func(c *api.Control) { *c = api.Control{CPUs: 4} }, true},
		{func(c *api.Control) { *c = api.Control{CPUs: 5} }, false},
		{func(c *api.Control) { *c = api.Control{CPUs: -1} }, false},
		{func(c *api.Control) { c.Raised[0] = 32 }, false},
		{func(c *api.Control) { c.Raised[2] = 1 << 31 }, false},
		{func(c *api.Control) { c.Raised[3] = 1 }, false},
		{func(c *api.Control) { c.Raised[3] = 16 }, false},
		{func(c *api.Control) { c.Raised[1] = 0 }, true},
		{func(c *api.Control) { c.Mask[0] = 32 }, false},
		{func(c *api.Control) { c.Mask[2] = 1 << 31 }, false},
		{func(c *api.Control) { c.Mask[3] = 1 }, false},
		{func(c *api.Control) { c.Mask[3] = 16 }, false},
		{func(c *api.Control) { c.Mask[1] = 0 }, true},
		{func(c *api.Control) { c.Raised[0], c.Mask[0] = 32, 32 }, false},
		{func(c *api.Control) { c.Raised[2], c.Mask[2] = 63, 63 }, false},
		{func(c *api.Control) { c.Raised[3], c.Mask[3] = 1, 1 }, false},
		{func(c *api.Control) { c.CPUs, c.Mask[3], c.Raised[3], c.Route = 4, 31, 31, [5]int{0, 3, 3, 3, 0} }, true},
		{func(c *api.Control) { c.Route[0] = 1 }, false},
		{func(c *api.Control) { c.Route[4] = 1 }, false},
		{func(c *api.Control) { c.Route[0] = -1 }, false},
		{func(c *api.Control) { c.Route[4] = -1 }, false},
		{func(c *api.Control) { c.Route[1] = 3 }, false},
		{func(c *api.Control) { c.Route[2] = 3 }, false},
		{func(c *api.Control) { c.Route[3] = 3 }, false},
		{func(c *api.Control) { c.Route[1] = -1 }, false},
		{func(c *api.Control) { c.Route[2] = -1 }, false},
		{func(c *api.Control) { c.Route[3] = -1 }, false},
		{func(c *api.Control) { c.Route[1], c.Route[2], c.Route[3] = 0, 1, 2 }, true},
	} {
		c := right
		x.change(&c)
		if Valid(c) != x.want {
			t.Errorf("P13.1: Valid of the control %d, %+v, is not %v", i, c, x.want)
		}
	}
	g := newMaker(131)
	for _, c := range g.controls(3000) {
		wrong := g.wrong()
		checkValid(t, c)
		checkValid(t, wrong)
		if !Valid(c) || Valid(wrong) {
			t.Fatalf("P13.1: %+v is not valid, or %+v is", c, wrong)
		}
	}
}

func TestRaise(t *testing.T) {
	g := newMaker(132)
	for _, c := range g.controls(500) {
		for cpu := range c.CPUs {
			for _, line := range lineNumbers() {
				if got := checkRaise(t, c, line, cpu); (line < 0 || line > 4) && got != c {
					t.Fatalf("P13.2: the line %d changes %+v to %+v", line, c, got)
				}
			}
		}
	}
}

// TestRoutes has lines of devices that are raised at other processors than that of the call.
func TestRoutes(t *testing.T) {
	c := api.Control{CPUs: 4, Route: [5]int{0, 3, 1, 2, 0}}
	for _, x := range []struct {
		line, cpu int
		want      [4]uint32
	}{
		{api.LiClock, 0, [4]uint32{1, 0, 0, 0}},
		{api.LiClock, 3, [4]uint32{0, 0, 0, 1}},
		{api.LiConsole, 0, [4]uint32{0, 0, 0, 2}},
		{api.LiBlock, 0, [4]uint32{0, 4, 0, 0}},
		{api.LiNet, 3, [4]uint32{0, 0, 8, 0}},
		{api.LiSignal, 2, [4]uint32{0, 0, 16, 0}},
		{api.Lines, 2, [4]uint32{}},
	} {
		if got := Raise(c, x.line, x.cpu); got.Raised != x.want || got.Mask != c.Mask || got.Route != c.Route || got.CPUs != 4 {
			t.Errorf("P13.2: the line %d by %d makes %+v", x.line, x.cpu, got)
		}
	}
}

func TestPending(t *testing.T) {
	for raised := range uint32(32) {
		for mask := range uint32(32) {
			c := api.Control{CPUs: 4, Raised: [4]uint32{31, raised, 0, 31}, Mask: [4]uint32{0, mask, 31, 31}}
			checkPending(t, c)
			if got := Pending(c, 1); got != raised&mask {
				t.Errorf("P13.3: of %d and %d %d is pending", raised, mask, got)
			}
		}
	}
	g := newMaker(133)
	for _, c := range g.controls(2000) {
		checkPending(t, c)
	}
}

func TestPorts(t *testing.T) {
	g := newMaker(134)
	for _, c := range g.controls(100) {
		for cpu := range c.CPUs {
			for _, port := range ports() {
				for _, x := range values() {
					checkPort(t, c, cpu, api.IO{Port: port, Value: x})
				}
				checkPort(t, c, cpu, api.IO{In: true, Port: port})
				checkPort(t, c, cpu, api.IO{In: true, Port: port, Value: g.value()})
			}
		}
	}
}

// TestPuts has what is put out, and results found by hand.
func TestPuts(t *testing.T) {
	c := api.Control{CPUs: 3, Raised: [4]uint32{31, 31, 31}, Mask: [4]uint32{1, 2, 3}, Route: [5]int{0, 1, 1, 1, 0}}
	for _, x := range []struct {
		port   int
		value  uint32
		change func(c *api.Control)
	}{
		{api.PoMask, 1<<32 - 1, func(c *api.Control) { c.Mask[1] = 31 }},
		{api.PoMask, 1<<32 - 32, func(c *api.Control) { c.Mask[1] = 0 }},
		{api.PoMask, 37, func(c *api.Control) { c.Mask[1] = 5 }},
		{api.PoAck, 0, func(c *api.Control) { c.Raised[1] = 30 }},
		{api.PoAck, 4, func(c *api.Control) { c.Raised[1] = 15 }},
		{api.PoAck, 5, func(c *api.Control) {}},
		{api.PoAck, 32, func(c *api.Control) {}},
		{api.PoAck, 1<<32 - 1, func(c *api.Control) {}},
		{api.PoSignal, 0, func(c *api.Control) {}},
		{api.PoSignal, 3, func(c *api.Control) {}},
		{api.PoSignal, 1<<32 - 1, func(c *api.Control) {}},
		{api.PoRoute, 0, func(c *api.Control) {}},
		{api.PoRoute, 2, func(c *api.Control) {}},
		{api.PoRoute, 16, func(c *api.Control) { c.Route[1] = 0 }},
		{api.PoRoute, 34, func(c *api.Control) { c.Route[2] = 2 }},
		{api.PoRoute, 35, func(c *api.Control) {}},
		{api.PoRoute, 47, func(c *api.Control) {}},
		{api.PoRoute, 48, func(c *api.Control) { c.Route[3] = 0 }},
		{api.PoRoute, 50, func(c *api.Control) { c.Route[3] = 2 }},
		{api.PoRoute, 64, func(c *api.Control) {}},
		{api.PoRoute, 66, func(c *api.Control) {}},
		{api.PoRoute, 80, func(c *api.Control) {}},
		{api.PoRoute, 256 + 16, func(c *api.Control) {}},
		{api.PoRoute, 1<<32 - 14, func(c *api.Control) {}},
	} {
		want := c
		x.change(&want)
		if got, y, e := Port(c, 1, api.IO{Port: x.port, Value: x.value}); got != want || y != 0 || e != api.OK {
			t.Errorf("P13.4: out %d with %d makes %+v, %d, %d", x.port, x.value, got, y, e)
		}
	}
	c.Raised[2] = 0
	if got, _, _ := Port(c, 1, api.IO{Port: api.PoSignal, Value: 2}); got.Raised != [4]uint32{31, 31, 16} {
		t.Errorf("P13.4: a signal to 2 makes %+v", got)
	}
}

// TestRaisedStays has a line that is routed to another processor while it is raised.
func TestRaisedStays(t *testing.T) {
	c := api.Control{CPUs: 2, Mask: [4]uint32{31, 31}}
	c = checkRaise(t, c, api.LiNet, 1)
	c = checkPort(t, c, 0, api.IO{Port: api.PoRoute, Value: 49})
	if Pending(c, 0) != 8 || Pending(c, 1) != 0 {
		t.Errorf("P13.4: what is raised moves: %+v", c)
	}
	c = checkRaise(t, c, api.LiNet, 0)
	c = checkPort(t, c, 0, api.IO{Port: api.PoAck, Value: 3})
	if Pending(c, 0) != 0 || Pending(c, 1) != 8 {
		t.Errorf("P13.4: the line is not acknowledged at 0 alone: %+v", c)
	}
}
