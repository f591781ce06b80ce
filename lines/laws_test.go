package lines

import (
	"testing"

	"simulacrum/api"
	"simulacrum/wire"
)

// history is what has been done to a controller, from which it follows what is pending (P13.6).
type history struct {
	cpus   int
	waits  map[at]bool // raised, and not acknowledged since
	masks  [4]uint32   // that were put out last
	routes [5]int      // that were put out last
}

func (h *history) raise(line, cpu int) {
	if line == 1 || line == 2 || line == 3 {
		cpu = h.routes[line]
	}
	if 0 <= line && line < 5 {
		h.waits[at{line, cpu}] = true
	}
}

func (h *history) port(cpu int, io api.IO) {
	x := int(io.Value)
	switch {
	case io.In:
	case io.Port == 0:
		h.masks[cpu] = io.Value
	case io.Port == 2:
		h.waits[at{x, cpu}] = false
	case io.Port == 3:
		h.waits[at{4, x}] = true
	case io.Port == 4 && 16 <= x && x < 64 && x%16 < h.cpus:
		h.routes[x/16] = x % 16
	}
}

// check checks P13.6: what is raised and not acknowledged is pending if, and only if, the mask lets it through.
func (h *history) check(t *testing.T, c api.Control) {
	t.Helper()
	for cpu := range h.cpus {
		for line := range 5 {
			is := Pending(c, cpu)>>line%2 == 1
			if want := h.waits[at{line, cpu}] && h.masks[cpu]>>line%2 == 1; is != want {
				t.Fatalf("P13.6: that the line %d is pending at %d is %v", line, cpu, is)
			}
		}
	}
}

func TestHistories(t *testing.T) {
	g := newMaker(139)
	for cpus := 1; cpus <= 4; cpus++ {
		for range 60 {
			c, _ := New(cpus)
			h := history{cpus: cpus, waits: map[at]bool{}}
			for range 300 {
				cpu := g.Intn(cpus)
				if g.Intn(2) == 0 {
					line := in(g, g.Intn(5), in(g, lineNumbers()...))
					c = checkRaise(t, c, line, cpu)
					h.raise(line, cpu)
				} else {
					io := g.ask()
					c = checkPort(t, c, cpu, io)
					h.port(cpu, io)
				}
				h.check(t, c)
			}
		}
	}
}

// TestHiddenLines has a line that is raised while the mask keeps it back, and much that others do in between.
func TestHiddenLines(t *testing.T) {
	g := newMaker(140)
	for line := range 5 {
		for range 100 {
			c := g.control()
			c.CPUs = 4
			c.Route = [5]int{0, 2, 2, 2, 0}
			c.Mask[2], c.Raised[2] = 0, 0
			c = Raise(c, line, 2)
			for range 50 {
				if cpu := in(g, 0, 1, 3); g.Intn(2) == 0 {
					c = Raise(c, g.Intn(5), cpu)
				} else {
					c, _, _ = Port(c, cpu, g.ask())
				}
			}
			if Pending(c, 2) != 0 {
				t.Fatalf("P13.6: with the mask 0 %d is pending", Pending(c, 2))
			}
			c, _, _ = Port(c, 2, api.IO{Port: api.PoMask, Value: 1 << line})
			if Pending(c, 2) != 1<<line {
				t.Fatalf("P13.6: the line %d is not pending any more", line)
			}
			c, _, _ = Port(c, 2, api.IO{Port: api.PoAck, Value: uint32(line)})
			if Pending(c, 2) != 0 {
				t.Fatalf("P13.6: the line %d is acknowledged and still pending", line)
			}
		}
	}
}

// checkOthers checks P13.7: nothing of another processor changes but that it gets a signal. A changed control is valid.
func checkOthers(t *testing.T, c api.Control, cpu int, io api.IO) {
	t.Helper()
	after, _, _ := Port(c, cpu, io)
	if !Valid(after) || after.CPUs != c.CPUs {
		t.Fatalf("P13.7: %+v makes %+v of %+v", io, after, c)
	}
	for other := range 4 {
		if other == cpu {
			continue
		}
		raised := c.Raised[other]
		if io.Port == 3 && !io.In && int(io.Value) == other && other < c.CPUs {
			raised |= 16
		}
		if after.Mask[other] != c.Mask[other] || after.Raised[other] != raised {
			t.Fatalf("P13.7: %+v by %d makes %+v of %+v", io, cpu, after, c)
		}
	}
}

func TestOthers(t *testing.T) {
	g := newMaker(141)
	for _, c := range g.controls(3000) {
		for cpu := range c.CPUs {
			for range 20 {
				checkOthers(t, c, cpu, g.ask())
			}
		}
	}
}

// TestEveryCallReturns has arguments of all kinds, also those for which nothing is specified (P1).
func TestEveryCallReturns(t *testing.T) {
	defer func() {
		if r := recover(); r != nil {
			t.Errorf("P1: a call panics: %v", r)
		}
	}()
	g := newMaker(142)
	for _, n := range lineNumbers() {
		New(n)
		for range 200 {
			c := in(g, g.wrong(), g.control(), api.Control{})
			Valid(c)
			cpu := in(g, -1<<63, -1, 0, 1, 2, 3, 4, 5, 1<<32, 1<<63-1)
			Raise(c, n, cpu)
			Pending(c, cpu)
			Port(c, cpu, g.ask())
			Port(c, cpu, api.IO{In: true, Port: n})
			Port(c, cpu, api.IO{Port: n, Value: uint32(n)})
			Encode(c)
			Decode(Encode(c))
			Decode(wire.Ints([]int{n}))
			Decode(append(wire.Int(n), Encode(c)...))
		}
	}
}
