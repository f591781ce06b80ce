package clock

import (
	"math/rand"

	"simulacrum/api"
)

// maker makes clocks, valid ones and others, and what is asked of them.
type maker struct{ *rand.Rand }

func newMaker(seed int64) maker { return maker{rand.New(rand.NewSource(seed))} }

// in returns one of some values.
func in[V any](g maker, l ...V) V { return l[g.Intn(len(l))] }

// upTo returns a number from 0 to another one, often one at an end.
func (g maker) upTo(most int) int {
	return in(g, 0, min(1, most), most/2, max(most-1, 0), most, g.Intn(most+1), g.Intn(min(most, 9)+1))
}

// count returns a number of steps.
func (g maker) count() int { return g.upTo(1 << 40) }

// clock returns a valid clock.
func (g maker) clock() api.Clock {
	c := api.Clock{Last: g.upTo(1<<31 - 1)}
	for cpu := range 4 {
		if g.Intn(2) == 0 {
			c.Offered[cpu], c.Reading[cpu] = true, g.upTo(c.Last)
		}
		if g.Intn(3) > 0 {
			c.Alarm[cpu] = g.count()
		}
	}
	return c
}

// wrong returns a clock that is not valid.
func (g maker) wrong() api.Clock {
	c := g.clock()
	cpu := g.Intn(4)
	switch g.Intn(6) {
	case 0:
		c.Last = in(g, -1, -2, -1<<31, -1<<63, 1<<31, 1<<31+1, 1<<32, 1<<40, 1<<63-1)
	case 1:
		c.Offered[cpu], c.Reading[cpu] = true, in(g, -1, -2, -1<<32, -1<<63, c.Last+1, 1<<31, 1<<32, 1<<63-1)
	case 2:
		c.Offered[cpu], c.Reading[cpu] = false, in(g, -1, 1, max(c.Last, 1), c.Last+1, 1<<32, 1<<63-1)
	case 3:
		c.Alarm[cpu] = in(g, -1, -2, -1<<40, -1<<63, 1<<40+1, 1<<41, 1<<63-1)
	case 4: // the greatest Reading is that of all others, and Last is less
		c = api.Clock{Last: g.upTo(1 << 30)}
		c.Offered[cpu], c.Reading[cpu] = true, c.Last+1+g.Intn(9)
	case 5:
		c.Offered = [4]bool{}
		c.Reading = [4]int{}
		c.Reading[cpu] = 1 + g.Intn(max(c.Last, 1))
	}
	return c
}

// corners returns clocks with nothing, with all that can be there, and with what is different at each place.
func corners() []api.Clock {
	return []api.Clock{
		{},
		{Last: 1<<31 - 1},
		{Offered: [4]bool{true, true, true, true}},
		{Last: 7, Offered: [4]bool{true, false, true, false}, Reading: [4]int{7, 0, 0, 0}},
		{Last: 1<<31 - 1, Offered: [4]bool{true, true, true, true}, Reading: [4]int{1<<31 - 1, 1<<31 - 1, 1<<31 - 1, 1<<31 - 1}, Alarm: [4]int{1 << 40, 1 << 40, 1 << 40, 1 << 40}},
		{Last: 20, Offered: [4]bool{true, true, true, true}, Reading: [4]int{11, 12, 13, 14}, Alarm: [4]int{21, 22, 23, 24}},
		{Last: 20, Offered: [4]bool{false, true, false, true}, Reading: [4]int{0, 20, 0, 19}, Alarm: [4]int{1, 0, 1<<40 - 1, 0}},
	}
}

// clocks returns the corners, and more valid clocks.
func (g maker) clocks(more int) []api.Clock {
	out := corners()
	for range more {
		out = append(out, g.clock())
	}
	return out
}

// cpus returns numbers of processors, and others.
func cpus() []int {
	return []int{-1 << 63, -1 << 32, -4, -1, 0, 1, 2, 3, 4, 5, 8, 1 << 32, 1<<32 + 1, 1<<63 - 1}
}

// readings returns what may be offered to a clock, and others.
func readings(c api.Clock) []int {
	return []int{-1 << 63, -1 << 32, -1<<32 + 5, -1, 0, 1, c.Last - 1, c.Last, c.Last + 1, 1<<31 - 2, 1<<31 - 1, 1 << 31, 1<<31 + 1, 1<<32 - 1, 1 << 32, 1<<32 + c.Last, 1 << 40, 1<<63 - 1}
}

// counts returns numbers of steps, and others.
func counts() []int {
	return []int{-1 << 63, -1 << 40, -1, 0, 1, 10, 1<<31 - 1, 1 << 32, 1<<40 - 1<<32, 1<<40 - 6, 1<<40 - 1, 1 << 40, 1<<40 + 1, 1 << 41, 1<<63 - 1}
}

// steps returns after how many steps an alarm may be due.
func steps() []uint32 {
	return []uint32{0, 1, 2, 5, 6, 7, 128, 1 << 16, 1<<31 - 1, 1 << 31, 1<<32 - 1}
}

// ports returns numbers of ports, and others.
func ports() []int {
	return []int{-1 << 63, -1<<32 + 16, -16, -1, 0, 1, 14, 15, 16, 17, 18, 19, 31, 32, 33, 48, 80, 1 << 32, 1<<32 + 16, 1<<32 + 17, 1<<63 - 1}
}

// after returns after how many steps an alarm may be due, often after few.
func (g maker) after() uint32 {
	return in(g, g.Uint32()%8, g.Uint32()%100, in(g, steps()...), g.Uint32())
}

// ask returns something that may be asked.
func (g maker) ask() api.IO {
	return api.IO{In: g.Intn(2) == 0, Port: in(g, 16, 17, 16, 17, in(g, ports()...)), Value: g.after()}
}
