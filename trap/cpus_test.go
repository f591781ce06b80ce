package trap

import (
	"math/rand"

	"simulacrum/api"
)

// maker makes processors, valid ones and others, and lines.
type maker struct{ *rand.Rand }

func newMaker(seed int64) maker { return maker{rand.New(rand.NewSource(seed))} }

// in returns one of some values.
func in[V any](g maker, l ...V) V { return l[g.Intn(len(l))] }

// word returns a word: often one at an end of the words, or with few bits.
func (g maker) word() uint32 {
	switch g.Intn(4) {
	case 0:
		return in(g, uint32(0), 1, 2, 4, 7, 8, 31, 32, 128, 1<<31-1, 1<<31, 1<<32-8, 1<<32-1)
	case 1:
		return 1 << g.Intn(32)
	case 2:
		return uint32(g.Intn(64))
	}
	return g.Uint32()
}

// cpu returns a valid processor.
func (g maker) cpu() api.CPU {
	c := api.CPU{PC: g.word(), User: g.Intn(2) == 0, Count: in(g, 0, 1, g.Intn(1000), g.Intn(1<<40), 1<<40-1, 1<<40)}
	for n := range c.R[1:] {
		c.R[1+n] = g.word()
	}
	for n := range c.C {
		c.C[n] = g.word()
	}
	c.C[5], c.C[7], c.C[8] = uint32(g.Intn(8)), 0, uint32(g.Intn(4))
	switch g.Intn(4) {
	case 0:
		c.Waiting = true
	case 1:
		c.Halted = true
	}
	return c
}

// wrong returns a processor that is not valid.
func (g maker) wrong() api.CPU {
	c := g.cpu()
	switch g.Intn(6) {
	case 0:
		c.R[0] = 1 + g.word()%(1<<32-1)
	case 1:
		c.C[5] = in(g, uint32(8), 9, 16, 1<<31, 1<<32-1)
	case 2:
		c.C[7] = in(g, uint32(1), 4, 31, 32, 1<<32-1)
	case 3:
		c.C[8] = in(g, uint32(4), 5, 256, 1<<31, 1<<32-1)
	case 4:
		c.Count = in(g, -1, -1<<63, 1<<40+1, 1<<63-1)
	case 5:
		c.Waiting, c.Halted = true, true
	}
	return c
}

// corners returns processors in all modes, with every status.
func corners() []api.CPU {
	var out []api.CPU
	for status := range uint32(8) {
		for mode := range 6 {
			c := api.CPU{PC: 1<<32 - 4, User: mode%2 == 1, Waiting: mode/2 == 1, Halted: mode/2 == 2, Count: 1 << 40}
			for n := range c.R[1:] {
				c.R[1+n] = uint32(100 + n)
			}
			c.C = [9]uint32{200, 201, 202, 203, 204, status, 206, 0, 3}
			out = append(out, c)
		}
	}
	return out
}

// cpus returns the corners, and more valid processors.
func (g maker) cpus(more int) []api.CPU {
	out := append(corners(), api.CPU{})
	for range more {
		out = append(out, g.cpu())
	}
	return out
}

// lineSets returns all sets of lines, alone and with bits that are no lines.
func lineSets() []uint32 {
	var out []uint32
	for n := range uint32(64) {
		out = append(out, n)
	}
	return append(out, 64, 96, 1<<31, 1<<31+16, 1<<32-32, 1<<32-1)
}

// registers returns numbers of registers, and others.
func registers() []int {
	return []int{-1 << 63, -1 << 32, -9, -2, -1, 0, 1, 2, 3, 4, 5, 6, 7, 8, 9, 10, 15, 16, 255, 1 << 32, 1<<32 + 5, 1<<63 - 1}
}
