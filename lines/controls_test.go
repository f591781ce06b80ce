package lines

import (
	"math/rand"

	"simulacrum/api"
)

// maker makes controls, valid ones and others, and what is asked of them.
type maker struct{ *rand.Rand }

func newMaker(seed int64) maker { return maker{rand.New(rand.NewSource(seed))} }

// in returns one of some values.
func in[V any](g maker, l ...V) V { return l[g.Intn(len(l))] }

// control returns a valid control.
func (g maker) control() api.Control {
	c := api.Control{CPUs: 1 + g.Intn(4)}
	for cpu := range c.CPUs {
		c.Raised[cpu] = in(g, 0, 31, g.Uint32()%32)
		c.Mask[cpu] = in(g, 0, 31, g.Uint32()%32)
	}
	for line := 1; line <= 3; line++ {
		c.Route[line] = g.Intn(c.CPUs)
	}
	return c
}

// wrong returns a control that is not valid.
func (g maker) wrong() api.Control {
	c := g.control()
	cpu, bad := g.Intn(4), in(g, uint32(32), 33, 63, 64, 1<<16, 1<<31, 1<<32-32, 1<<32-1)
	switch g.Intn(7) {
	case 0:
		c.CPUs = in(g, 0, -1, 5, 6, 31, -1<<63, 1<<63-1, 1<<32+1)
	case 1:
		c.Raised[cpu] |= bad
	case 2:
		c.Mask[cpu] |= bad
	case 3:
		c.CPUs, c.Route = 1+g.Intn(3), [5]int{}
		c.Raised, c.Mask = [4]uint32{}, [4]uint32{}
		empty := c.CPUs + g.Intn(4-c.CPUs)
		in(g, &c.Raised, &c.Mask)[empty] = 1 + g.Uint32()%31
	case 4:
		c.Route[1+g.Intn(3)] = in(g, -1, c.CPUs, c.CPUs+1, 4, 16, -1<<63, 1<<63-1, 1<<32)
	case 5:
		c.Route[in(g, 0, 4)] = in(g, 1, 2, 3, -1, 4, -1<<63, 1<<63-1)
	case 6:
		c.Raised[cpu], c.Mask[cpu] = bad, bad
	}
	return c
}

// corners returns controls of all sizes: with nothing, with all that can be set, and with what is different at each place.
func corners() []api.Control {
	var out []api.Control
	for cpus := 1; cpus <= 4; cpus++ {
		empty, full, other := api.Control{CPUs: cpus}, api.Control{CPUs: cpus}, api.Control{CPUs: cpus}
		for cpu := range cpus {
			full.Raised[cpu], full.Mask[cpu] = 31, 31
			other.Raised[cpu], other.Mask[cpu] = uint32(5+6*cpu), uint32(30-7*cpu)
		}
		full.Route = [5]int{0, cpus - 1, cpus - 1, cpus - 1, 0}
		other.Route = [5]int{0, 1 % cpus, 2 % cpus, 3 % cpus, 0}
		out = append(out, empty, full, other)
	}
	return out
}

// controls returns the corners, and more valid controls.
func (g maker) controls(more int) []api.Control {
	out := corners()
	for range more {
		out = append(out, g.control())
	}
	return out
}

// ports returns numbers of ports, and others.
func ports() []int {
	return []int{-1 << 63, -1<<32 + 2, -2, -1, 0, 1, 2, 3, 4, 5, 6, 7, 8, 15, 16, 32, 48, 64, 255, 1 << 32, 1<<32 + 2, 1<<63 - 1}
}

// lineNumbers returns numbers of lines, and others.
func lineNumbers() []int {
	return []int{-1 << 63, -1 << 32, -1<<32 + 1, -5, -1, 0, 1, 2, 3, 4, 5, 6, 16, 31, 32, 33, 64, 1 << 32, 1<<32 + 1, 1<<63 - 1}
}

// values returns what may be put out: all values that could be routes, and others.
func values() []uint32 {
	var out []uint32
	for n := range uint32(98) {
		out = append(out, n)
	}
	return append(out, 127, 128, 255, 256, 257, 272, 288, 1<<16, 1<<20+16, 1<<31, 1<<31+1, 1<<31+17, 1<<32-32, 1<<32-16, 1<<32-2, 1<<32-1)
}

// value returns what may be put out, often something that counts.
func (g maker) value() uint32 {
	return in(g, g.Uint32()%5, g.Uint32()%32, 16*(g.Uint32()%5)+g.Uint32()%4, g.Uint32()%100, g.Uint32())
}

// ask returns something that may be asked.
func (g maker) ask() api.IO {
	return api.IO{In: g.Intn(4) == 0, Port: in(g, g.Intn(5), g.Intn(5), g.Intn(5), in(g, ports()...)), Value: g.value()}
}
