package clock

import (
	"slices"
	"testing"

	"simulacrum/api"
)

func checkValid(t *testing.T, c api.Clock) {
	t.Helper()
	if got, want := Valid(c), validRule(c); got != want {
		t.Fatalf("P14.1: Valid(%+v) = %v, not %v", c, got, want)
	}
}

func checkOffer(t *testing.T, c api.Clock, cpu, reading int) api.Clock {
	t.Helper()
	got, e := Offer(c, cpu, reading)
	if want, wantE := offerRule(c, cpu, reading); got != want || e != wantE {
		t.Fatalf("P14.2: Offer(%+v, %d, %d) = %+v, %d, not %+v, %d", c, cpu, reading, got, e, want, wantE)
	}
	return got
}

func checkRead(t *testing.T, c api.Clock, cpu int) api.Clock {
	t.Helper()
	got, x, e := Read(c, cpu)
	if want, wantX, wantE := readRule(c, cpu); got != want || x != wantX || e != wantE {
		t.Fatalf("P14.3: Read(%+v, %d) = %+v, %d, %d, not %+v, %d, %d", c, cpu, got, x, e, want, wantX, wantE)
	}
	return got
}

func checkSet(t *testing.T, c api.Clock, cpu, count int, after uint32) api.Clock {
	t.Helper()
	got, e := Set(c, cpu, count, after)
	if want, wantE := setRule(c, cpu, count, after); got != want || e != wantE {
		t.Fatalf("P14.4: Set(%+v, %d, %d, %d) = %+v, %d, not %+v, %d", c, cpu, count, after, got, e, want, wantE)
	}
	return got
}

func checkNext(t *testing.T, c api.Clock, cpu int) {
	t.Helper()
	if got, want := Next(c, cpu), nextRule(c, cpu); got != want {
		t.Fatalf("P14.4: Next(%+v, %d) = %d, not %d", c, cpu, got, want)
	}
}

func checkFire(t *testing.T, c api.Clock, cpu, count int) api.Clock {
	t.Helper()
	got, is := Fire(c, cpu, count)
	if want, wantIs := fireRule(c, cpu, count); got != want || is != wantIs {
		t.Fatalf("P14.5: Fire(%+v, %d, %d) = %+v, %v, not %+v, %v", c, cpu, count, got, is, want, wantIs)
	}
	if again, is := Fire(got, cpu, count); is || again != got {
		t.Fatalf("P14.5: Fire(%+v, %d, %d) once more is %v, with %+v", c, cpu, count, is, again)
	}
	return got
}

func checkPort(t *testing.T, c api.Clock, cpu, count int, io api.IO) api.Clock {
	t.Helper()
	got, x, e := Port(c, cpu, count, io)
	if want, wantX, wantE := portRule(c, cpu, count, io); got != want || x != wantX || e != wantE {
		t.Fatalf("P14.10: Port(%+v, %d, %d, %+v) = %+v, %d, %d, not %+v, %d, %d", c, cpu, count, io, got, x, e, want, wantX, wantE)
	}
	return got
}

func TestConstants(t *testing.T) {
	got := []int{
		api.MaxCPUs, api.MaxTime, api.MaxCount, int(api.OK), int(api.ErrArg), int(api.ErrState),
		int(api.ErrName), int(api.ErrRange), int(api.ErrTime), int(api.ErrEncoding),
	}
	want := []int{4, maxTime, maxCount, 0, 1, 4, 5, 7, 9, 11}
	if !slices.Equal(got, want) {
		t.Errorf("the tests have other numbers than package api: %v, %v", want, got)
	}
	g := newMaker(140)
	for _, c := range g.clocks(200) {
		if again := partsOf(c).clock(); again != c {
			t.Errorf("the parts of %+v are those of %+v", c, again)
		}
	}
}

// TestExamples has the chapter's examples, one after the other.
func TestExamples(t *testing.T) {
	var c api.Clock
	offer := func(cpu, reading int, want api.Errno) {
		t.Helper()
		var e api.Errno
		if c, e = Offer(c, cpu, reading); e != want {
			t.Fatalf("P14.2: Offer of %d to %d has the error %d, not %d", reading, cpu, e, want)
		}
	}
	read := func(cpu int, want uint32, wantE api.Errno) {
		t.Helper()
		var x uint32
		var e api.Errno
		if c, x, e = Read(c, cpu); x != want || e != wantE {
			t.Fatalf("P14.3: Read of %d is %d, %d, not %d, %d", cpu, x, e, want, wantE)
		}
	}
	offer(1, 7, api.OK)
	read(1, 7, api.OK)
	read(1, 0, api.ErrState)
	offer(0, 6, api.ErrTime)
	offer(0, 7, api.OK)
	offer(0, 9, api.ErrState)
	if want := (api.Clock{Last: 7, Offered: [4]bool{true}, Reading: [4]int{7}}); c != want {
		t.Errorf("P14.2: the clock is %+v", c)
	}

	set := func(cpu, count int, after uint32, want int) {
		t.Helper()
		var e api.Errno
		if c, e = Set(api.Clock{}, cpu, count, after); e != api.OK || Next(c, cpu) != want {
			t.Fatalf("P14.4: Set of %d at the count %d to %d: %d, Next %d", cpu, count, after, e, Next(c, cpu))
		}
	}
	fire := func(cpu, count int, want bool) {
		t.Helper()
		var is bool
		if c, is = Fire(c, cpu, count); is != want {
			t.Fatalf("P14.5: Fire of %d at %d is %v", cpu, count, is)
		}
	}
	set(2, 10, 5, 15)
	fire(2, 14, false)
	fire(2, 15, true)
	fire(2, 15, false)
	set(2, 1<<40-1, 5, 1<<40)
}

func TestValid(t *testing.T) {
	right := api.Clock{Last: 9, Offered: [4]bool{true, true, false, false}, Reading: [4]int{9, 0, 0, 0}, Alarm: [4]int{0, 1, 1 << 40, 7}}
	for i, x := range []struct {
		change func(c *api.Clock)
		want   bool
	}{
		{func(c *api.Clock) {}, true},
		{func(c *api.Clock) { *c = api.Clock{} }, true},
		{func(c *api.Clock) { c.Last = 1<<31 - 1 }, true},
		{func(c *api.Clock) { c.Last = 1 << 31 }, false},
		{func(c *api.Clock) { c.Last = 8 }, false},
		{func(c *api.Clock) { c.Last = 0 }, false},
		{func(c *api.Clock) { c.Last, c.Reading[0] = 0, 0 }, true},
		{func(c *api.Clock) { c.Last, c.Reading[0] = -1, 0 }, false},
		{func(c *api.Clock) { *c = api.Clock{Last: -1} }, false},
		{func(c *api.Clock) { *c = api.Clock{Last: 1 << 31} }, false},
		{func(c *api.Clock) { c.Reading[0] = 10 }, false},
		{func(c *api.Clock) { c.Reading[0] = -1 }, false},
		{func(c *api.Clock) { c.Reading[1] = 10 }, false},
		{func(c *api.Clock) { c.Reading[1] = 9 }, true},
		{func(c *api.Clock) { c.Reading[2] = 1 }, false},
		{func(c *api.Clock) { c.Reading[3] = 9 }, false},
		{func(c *api.Clock) { c.Reading[3] = -1 }, false},
		{func(c *api.Clock) { c.Offered[3], c.Reading[3] = true, 9 }, true},
		{func(c *api.Clock) { c.Offered[3], c.Reading[3] = true, 10 }, false},
		{func(c *api.Clock) { c.Offered[0] = false }, false},
		{func(c *api.Clock) { c.Offered[1] = false }, true},
		{func(c *api.Clock) { c.Offered[2] = true }, true},
		{func(c *api.Clock) { c.Alarm[0] = -1 }, false},
		{func(c *api.Clock) { c.Alarm[1] = 1<<40 + 1 }, false},
		{func(c *api.Clock) { c.Alarm[2] = 1<<40 + 1 }, false},
		{func(c *api.Clock) { c.Alarm[3] = -1 }, false},
		{func(c *api.Clock) { c.Alarm[3] = 1 << 40 }, true},
		{func(c *api.Clock) { c.Alarm = [4]int{} }, true},
	} {
		c := right
		x.change(&c)
		if Valid(c) != x.want {
			t.Errorf("P14.1: Valid of the clock %d, %+v, is not %v", i, c, x.want)
		}
	}
	g := newMaker(141)
	for _, c := range g.clocks(3000) {
		wrong := g.wrong()
		checkValid(t, c)
		checkValid(t, wrong)
		if !Valid(c) || Valid(wrong) {
			t.Fatalf("P14.1: %+v is not valid, or %+v is", c, wrong)
		}
	}
}

func TestOffer(t *testing.T) {
	g := newMaker(142)
	for _, c := range g.clocks(500) {
		for _, cpu := range cpus() {
			for _, reading := range readings(c) {
				checkOffer(t, c, cpu, reading)
			}
		}
	}
}

// TestOfferErrors has calls for which several errors apply: the first one counts.
func TestOfferErrors(t *testing.T) {
	c := api.Clock{Last: 5, Offered: [4]bool{true, false, true}, Reading: [4]int{5, 0, 0}}
	for _, x := range []struct {
		cpu, reading int
		want         api.Errno
	}{
		{4, -1, api.ErrArg},
		{-1, 1 << 31, api.ErrArg},
		{4, 4, api.ErrArg},
		{4, 5, api.ErrArg},
		{0, -1, api.ErrRange},
		{0, 1 << 31, api.ErrRange},
		{1, -1, api.ErrRange},
		{0, 4, api.ErrTime},
		{1, 0, api.ErrTime},
		{0, 5, api.ErrState},
		{2, 1<<31 - 1, api.ErrState},
		{1, 5, api.OK},
		{3, 1<<31 - 1, api.OK},
	} {
		got, e := Offer(c, x.cpu, x.reading)
		if e != x.want || e != api.OK && got != c || e == api.OK && (got.Last != x.reading || !got.Offered[x.cpu] || got.Reading[x.cpu] != x.reading) {
			t.Errorf("P14.2: Offer of %d to %d = %+v, %d, not %d", x.reading, x.cpu, got, e, x.want)
		}
	}
}

func TestRead(t *testing.T) {
	g := newMaker(143)
	for _, c := range g.clocks(1000) {
		for _, cpu := range cpus() {
			checkRead(t, c, cpu)
		}
	}
	c := api.Clock{Last: 1<<31 - 1, Offered: [4]bool{true, false, true}, Reading: [4]int{0, 0, 1<<31 - 1}}
	for _, x := range []struct {
		cpu   int
		want  uint32
		wantE api.Errno
	}{{0, 0, api.OK}, {1, 0, api.ErrState}, {2, 1<<31 - 1, api.OK}, {3, 0, api.ErrState}, {4, 0, api.ErrArg}, {-1, 0, api.ErrArg}} {
		got, reading, e := Read(c, x.cpu)
		if reading != x.want || e != x.wantE || e != api.OK && got != c || got.Last != c.Last {
			t.Errorf("P14.3: Read of %d = %+v, %d, %d", x.cpu, got, reading, e)
		}
	}
}

func TestSet(t *testing.T) {
	g := newMaker(144)
	for _, c := range g.clocks(100) {
		for _, cpu := range cpus() {
			checkNext(t, c, cpu)
			for _, count := range counts() {
				for _, after := range steps() {
					got := checkSet(t, c, cpu, count, after)
					checkNext(t, got, cpu)
				}
			}
		}
	}
}

// TestAlarms has alarms that are set, and results found by hand.
func TestAlarms(t *testing.T) {
	c := api.Clock{Last: 3, Offered: [4]bool{false, true}, Reading: [4]int{0, 2}, Alarm: [4]int{8, 9, 10, 0}}
	for _, x := range []struct {
		cpu, count int
		after      uint32
		want       int
		wantE      api.Errno
	}{
		{1, 0, 1, 1, api.OK},
		{1, 0, 0, 0, api.OK},
		{1, 1 << 40, 0, 0, api.OK},
		{1, 1 << 40, 1, 1 << 40, api.OK},
		{1, 1<<40 - 1, 1, 1 << 40, api.OK},
		{1, 1<<40 - 2, 1, 1<<40 - 1, api.OK},
		{1, 1<<40 - 1<<32, 1<<32 - 1, 1<<40 - 1, api.OK},
		{1, 1<<40 - 1<<32 + 1, 1<<32 - 1, 1 << 40, api.OK},
		{1, 1<<40 - 1<<32 + 2, 1<<32 - 1, 1 << 40, api.OK},
		{1, 1 << 31, 1 << 31, 1 << 32, api.OK},
		{1, 1<<40 + 1, 1, 9, api.ErrArg},
		{1, 1<<40 + 1, 0, 9, api.ErrArg},
		{1, -1, 2, 9, api.ErrArg},
		{1, -1, 0, 9, api.ErrArg},
		{4, 0, 1, 0, api.ErrArg},
		{-1, 0, 1, 0, api.ErrArg},
	} {
		want := c
		if e := x.wantE; e == api.OK {
			want.Alarm[x.cpu] = x.want
		}
		if got, e := Set(c, x.cpu, x.count, x.after); got != want || e != x.wantE || Next(got, x.cpu) != x.want {
			t.Errorf("P14.4: Set of %d at %d to %d = %+v, %d, not %+v, %d", x.cpu, x.count, x.after, got, e, want, x.wantE)
		}
	}
}

func TestFire(t *testing.T) {
	g := newMaker(145)
	for _, c := range g.clocks(500) {
		for _, cpu := range cpus() {
			due := Next(c, cpu)
			for _, count := range append(counts(), due-1, due, due+1) {
				checkFire(t, c, cpu, count)
			}
		}
	}
}

// TestDue has alarms of which it is asked too early, in time and late.
func TestDue(t *testing.T) {
	c := api.Clock{Alarm: [4]int{15, 1, 1 << 40, 0}}
	for _, x := range []struct {
		cpu, count int
		want       bool
	}{
		{0, 14, false}, {0, 15, true}, {0, 16, true}, {0, 1<<63 - 1, true}, {0, -1, false}, {0, -1 << 63, false},
		{1, 0, false}, {1, 1, true}, {1, 2, true},
		{2, 1<<40 - 1, false}, {2, 1 << 40, true}, {2, 1<<40 + 1, true},
		{3, 0, false}, {3, 1, false}, {3, 1<<63 - 1, false},
		{4, 1 << 40, false}, {-1, 1 << 40, false}, {-4, 0, false},
	} {
		want := c
		if x.want {
			want.Alarm[x.cpu] = 0
		}
		if got, is := Fire(c, x.cpu, x.count); is != x.want || got != want {
			t.Errorf("P14.5: Fire of %d at %d = %+v, %v", x.cpu, x.count, got, is)
		}
	}
}

func TestPorts(t *testing.T) {
	g := newMaker(146)
	for _, c := range g.clocks(20) {
		for _, cpu := range cpus() {
			for _, count := range counts() {
				for _, port := range ports() {
					for _, after := range steps() {
						checkPort(t, c, cpu, count, api.IO{Port: port, Value: after})
					}
					checkPort(t, c, cpu, count, api.IO{In: true, Port: port})
					checkPort(t, c, cpu, count, api.IO{In: true, Port: port, Value: g.after()})
				}
			}
		}
	}
}

// TestAsked has what is asked, and results found by hand.
func TestAsked(t *testing.T) {
	c := api.Clock{Last: 6, Offered: [4]bool{false, true}, Reading: [4]int{0, 5}, Alarm: [4]int{0, 9}}
	for _, x := range []struct {
		cpu, count int
		io         api.IO
		change     func(c *api.Clock)
		want       uint32
		wantE      api.Errno
	}{
		{1, 7, api.IO{In: true, Port: 16}, func(c *api.Clock) { c.Offered[1], c.Reading[1] = false, 0 }, 5, api.OK},
		{1, 7, api.IO{In: true, Port: 16, Value: 3}, func(c *api.Clock) { c.Offered[1], c.Reading[1] = false, 0 }, 5, api.OK},
		{1, -1, api.IO{In: true, Port: 16}, func(c *api.Clock) { c.Offered[1], c.Reading[1] = false, 0 }, 5, api.OK},
		{0, 7, api.IO{In: true, Port: 16}, func(c *api.Clock) {}, 0, api.ErrState},
		{4, 7, api.IO{In: true, Port: 16}, func(c *api.Clock) {}, 0, api.ErrArg},
		{1, 7, api.IO{Port: 17, Value: 3}, func(c *api.Clock) { c.Alarm[1] = 10 }, 0, api.OK},
		{1, 7, api.IO{Port: 17}, func(c *api.Clock) { c.Alarm[1] = 0 }, 0, api.OK},
		{3, 1 << 40, api.IO{Port: 17, Value: 3}, func(c *api.Clock) { c.Alarm[3] = 1 << 40 }, 0, api.OK},
		{1, 1<<40 + 1, api.IO{Port: 17, Value: 3}, func(c *api.Clock) {}, 0, api.ErrArg},
		{-1, 7, api.IO{Port: 17, Value: 3}, func(c *api.Clock) {}, 0, api.ErrArg},
		{1, 7, api.IO{Port: 16, Value: 3}, func(c *api.Clock) {}, 0, api.ErrName},
		{1, 7, api.IO{In: true, Port: 17}, func(c *api.Clock) {}, 0, api.ErrName},
		{1, 7, api.IO{In: true, Port: 15}, func(c *api.Clock) {}, 0, api.ErrName},
		{1, 7, api.IO{Port: 18, Value: 3}, func(c *api.Clock) {}, 0, api.ErrName},
		{4, -1, api.IO{Port: 16}, func(c *api.Clock) {}, 0, api.ErrName},
		{-1, 1<<40 + 1, api.IO{In: true, Port: 17}, func(c *api.Clock) {}, 0, api.ErrName},
	} {
		want := c
		x.change(&want)
		if got, y, e := Port(c, x.cpu, x.count, x.io); got != want || y != x.want || e != x.wantE {
			t.Errorf("P14.10: %+v by %d at %d makes %+v, %d, %d", x.io, x.cpu, x.count, got, y, e)
		}
	}
}
