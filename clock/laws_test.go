package clock

import (
	"testing"

	"simulacrum/api"
	"simulacrum/wire"
)

// TestReadings has histories of offers and reads: each reading that is taken is the one that this processor was offered last, and is taken once; what is offered never decreases (P14.7).
func TestReadings(t *testing.T) {
	g := newMaker(151)
	for range 200 {
		var c api.Clock
		var waiting [4][]int // at most one reading each
		last, given, taken := 0, 0, 0
		for range 300 {
			cpu := g.Intn(4)
			if g.Intn(2) == 0 {
				reading := in(g, last, last+g.Intn(9), last-1-g.Intn(3), g.Intn(1<<31))
				after, e := Offer(c, cpu, reading)
				if can := reading >= last && reading < 1<<31 && len(waiting[cpu]) == 0; can != (e == api.OK) {
					t.Fatalf("P14.7: Offer of %d to %d, after %d, has the error %d", reading, cpu, last, e)
				}
				if e == api.OK {
					last, waiting[cpu] = reading, []int{reading}
					given++
				}
				c = after
				continue
			}
			after, x, e := takeOne(g, c, cpu)
			if (e == api.OK) != (len(waiting[cpu]) == 1) {
				t.Fatalf("P14.7: Read of %d has the error %d, with %v", cpu, e, waiting[cpu])
			}
			if e == api.OK {
				if int(x) != waiting[cpu][0] {
					t.Fatalf("P14.7: Read of %d returns %d, not %d", cpu, x, waiting[cpu][0])
				}
				waiting[cpu] = nil
				taken++
			}
			c = after
		}
		left := len(waiting[0]) + len(waiting[1]) + len(waiting[2]) + len(waiting[3])
		if c.Last != last || taken+left != given {
			t.Fatalf("P14.7: %d readings are offered, %d taken, %d left; the last one is %d, not %d", given, taken, left, c.Last, last)
		}
	}
}

// takeOne takes a reading by one of the two ways to do it.
func takeOne(g maker, c api.Clock, cpu int) (api.Clock, uint32, api.Errno) {
	if g.Intn(2) == 0 {
		return Read(c, cpu)
	}
	return Port(c, cpu, g.count(), api.IO{In: true, Port: 16})
}

// stepper is a processor that counts how many steps are left until its alarm.
type stepper struct {
	count, left int
	armed       bool
}

// arm sets the alarm of a processor by one of the two ways to do it.
func (s *stepper) arm(t *testing.T, g maker, c api.Clock, cpu int, after uint32) api.Clock {
	t.Helper()
	var x uint32
	var e api.Errno
	if g.Intn(2) == 0 {
		c, e = Set(c, cpu, s.count, after)
	} else {
		c, x, e = Port(c, cpu, s.count, api.IO{Port: 17, Value: after})
	}
	if x != 0 || e != api.OK {
		t.Fatalf("P14.8: the alarm of %d is not set: %d, %d", cpu, x, e)
	}
	s.left, s.armed = int(after), after > 0
	return c
}

// step does a step of a processor: the alarm fires exactly if no step is left, or the count is the greatest one.
func (s *stepper) step(t *testing.T, c api.Clock, cpu int) api.Clock {
	t.Helper()
	s.count++
	s.left--
	want := s.armed && (s.left == 0 || s.count == 1<<40)
	c, is := Fire(c, cpu, s.count)
	if is != want {
		t.Fatalf("P14.8: after %d steps of %d, and with %d left, Fire is %v", s.count, cpu, s.left, is)
	}
	s.armed = s.armed && !is
	if got := Next(c, cpu); (got != 0) != s.armed {
		t.Fatalf("P14.8: after %d steps of %d Next is %d", s.count, cpu, got)
	}
	return c
}

// TestSteps has processors that set alarms, do steps and take readings, in any order: each alarm fires once, after as many steps as were said (P14.8).
func TestSteps(t *testing.T) {
	g := newMaker(152)
	for range 300 {
		var c api.Clock
		var l [4]stepper
		for cpu := range l {
			l[cpu].count = in(g, 0, g.Intn(1000), 1<<32-20, 1<<40-200)
		}
		for range 400 {
			cpu := g.Intn(4)
			s := &l[cpu]
			switch {
			case g.Intn(8) == 0:
				c = s.arm(t, g, c, cpu, g.Uint32()%in(g, uint32(3), 10, 60))
			case g.Intn(8) == 0:
				c, _ = Offer(c, g.Intn(4), c.Last+g.Intn(9))
			case g.Intn(8) == 0:
				c, _, _ = Read(c, g.Intn(4))
			case s.count < 1<<40:
				c = s.step(t, c, cpu)
			}
		}
	}
}

// TestLongAlarms has alarms that are due after very many steps, and not one step earlier.
func TestLongAlarms(t *testing.T) {
	for _, count := range []int{0, 1, 77, 1 << 31, 1<<40 - 1<<32} {
		for _, after := range []int{1, 2, 1<<16 + 1, 1<<31 - 1, 1 << 31, 1<<32 - 1} {
			c := checkSet(t, api.Clock{}, 3, count, uint32(after))
			for _, early := range []int{count, count + 1, count + after/2, count + after - 1} {
				if _, is := Fire(c, 3, early); is && early < count+after {
					t.Errorf("P14.8: the alarm at %d after %d steps is due at %d", count, after, early)
				}
			}
			if c, is := Fire(c, 3, count+after); !is || c != (api.Clock{}) {
				t.Errorf("P14.8: the alarm at %d after %d steps does not fire, or leaves %+v", count, after, c)
			}
		}
	}
}

// checkOthers checks P14.8 for all that one processor can do: nothing that another one has changes; and the clock stays valid.
func checkOthers(t *testing.T, c api.Clock, cpu int, after api.Clock) {
	t.Helper()
	if !Valid(after) || after.Last < c.Last {
		t.Fatalf("P14.7: of %+v there comes %+v", c, after)
	}
	for other := range 4 {
		if other == cpu {
			continue
		}
		if after.Offered[other] != c.Offered[other] || after.Reading[other] != c.Reading[other] || after.Alarm[other] != c.Alarm[other] {
			t.Fatalf("P14.8: %d makes %+v of %+v", cpu, after, c)
		}
	}
}

func TestOthers(t *testing.T) {
	g := newMaker(153)
	for _, c := range g.clocks(3000) {
		for _, cpu := range cpus() {
			after, _ := Offer(c, cpu, in(g, readings(c)...))
			checkOthers(t, c, cpu, after)
			after, _, _ = Read(c, cpu)
			checkOthers(t, c, cpu, after)
			after, _ = Set(c, cpu, in(g, counts()...), g.after())
			checkOthers(t, c, cpu, after)
			after, _ = Fire(c, cpu, in(g, counts()...))
			checkOthers(t, c, cpu, after)
			after, _, _ = Port(c, cpu, in(g, counts()...), g.ask())
			checkOthers(t, c, cpu, after)
		}
	}
}

// TestEveryCallReturns has arguments of all kinds, also those for which nothing is specified (P1).
func TestEveryCallReturns(t *testing.T) {
	defer func() {
		if r := recover(); r != nil {
			t.Errorf("P1: a call panics: %v", r)
		}
	}()
	g := newMaker(154)
	for range 3000 {
		c := in(g, g.wrong(), g.clock(), api.Clock{})
		cpu, n := in(g, cpus()...), in(g, counts()...)
		Valid(c)
		Offer(c, cpu, in(g, readings(c)...))
		Offer(c, cpu, n)
		Read(c, cpu)
		Set(c, cpu, n, g.after())
		Next(c, cpu)
		Fire(c, cpu, n)
		Port(c, cpu, n, g.ask())
		Encode(c)
		Decode(Encode(c))
		Decode(wire.Ints([]int{n}))
		Decode(append(wire.Int(n), Encode(c)...))
	}
}
