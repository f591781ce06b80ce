package core

import (
	"math/rand"

	"simulacrum/api"
	"simulacrum/isa"
	"simulacrum/memory"
	"simulacrum/table"
)

// maker makes processors, memories with page tables and programs, and lines.
type maker struct{ *rand.Rand }

func newMaker(seed int64) maker { return maker{rand.New(rand.NewSource(seed))} }

// in returns one of some values.
func in[V any](g maker, l ...V) V { return l[g.Intn(len(l))] }

// operations returns all operations.
func operations() []int {
	return []int{1, 2, 3, 4, 5, 6, 7, 8, 9, 10, 11, 12, 16, 17, 20, 21, 22, 23, 24, 28, 29, 30, 31, 32, 33, 40, 41, 42, 43, 44, 45, 46, 47, 48}
}

// word returns the word of a right instruction.
func word(i api.Ins) uint32 {
	w, e := isa.Encode(i)
	if e != api.OK {
		panic("an instruction is not right")
	}
	return w
}

// instruction returns a right instruction with an operation.
func (g maker) instruction(op int) api.Ins {
	i := api.Ins{Op: op}
	form := isa.Form(op)
	if form <= 3 {
		i.A = g.Intn(16)
	}
	if form <= 2 || form == 4 {
		i.B = g.Intn(16)
	}
	switch form {
	case 1:
		i.C = g.Intn(16)
	case 2:
		i.Imm = in(g, 0, 0, 4*(g.Intn(20)-10), 4*(g.Intn(20)-10), g.Intn(10)-5, g.Intn(1<<18)-1<<17, -1<<17, 1<<17-1)
	case 3:
		i.Imm = in(g, g.Intn(9), g.Intn(9), g.Intn(9), g.Intn(16)-4, g.Intn(100), g.Intn(1<<18)-1<<17, -1<<17, 1<<17-1)
	}
	return i
}

// any returns a word: nearly always that of a right instruction.
func (g maker) any() uint32 {
	switch g.Intn(20) {
	case 0:
		return g.Uint32()
	case 1:
		return g.entry(64)
	}
	return word(g.instruction(in(g, operations()...)))
}

// entry returns an entry of a second-level table.
func (g maker) entry(pages int) uint32 {
	flags := uint32(g.Intn(64)) | in(g, uint32(1), 1, 1, 0) | in(g, uint32(0), 4, 8, 12, 14)
	return uint32(128*g.Intn(pages)) | flags
}

// first returns an entry of a first-level table.
func (g maker) first(pages int) uint32 {
	switch g.Intn(8) {
	case 0:
		return 0
	case 1:
		return g.Uint32()
	case 2, 3, 4:
		return in(g, uint32(0), 0, 4096) | 65 | uint32(g.Intn(32)*2) | in(g, uint32(0), 4, 14)
	}
	return uint32(128*g.Intn(pages)) + 1
}

// store changes a word of a memory in its place.
func store(m api.Mem, at int, x uint32) {
	for n := range 4 {
		m.Pages[at/128][at%128+n] = byte(x >> (8 * n))
	}
}

// memory returns a memory, and the root of tables in it. The other pages are second-level tables, programs, or noise.
func (g maker) memory() (api.Mem, uint32) {
	pages := in(g, 1, 2, 3, 8, 33, 64, 1+g.Intn(64))
	m := api.Mem{Pages: make([]api.Page, pages)}
	for n := range m.Pages {
		kind := g.Intn(5)
		for k := range 32 {
			x := g.entry(pages)
			switch kind {
			case 0, 1:
				x = g.any()
			case 2:
				x = g.Uint32()
			}
			store(m, 128*n+4*k, x)
		}
	}
	root := 128 * g.Intn(pages)
	for k := range 32 {
		store(m, root+4*k, g.first(pages))
	}
	if g.Intn(3) == 0 { // the root is a second-level table as well
		store(m, root+4*g.Intn(32), uint32(root)+1)
	}
	return m, uint32(root)
}

// virtual returns an address that the tables of a root map, if there is one, or seldom any other.
func (g maker) virtual(m api.Mem, root uint32) uint32 {
	offset := in(g, uint32(4*g.Intn(32)), uint32(4*g.Intn(32)), uint32(4*g.Intn(32)), uint32(g.Intn(128)))
	if g.Intn(20) == 0 {
		return in(g, g.Uint32(), 1<<17, 1<<17-4, 1<<32-4, uint32(128*len(m.Pages)), uint32(128*len(m.Pages)-4))
	}
	if root == 0 {
		return uint32(128*g.Intn(len(m.Pages))) + offset
	}
	l := table.List(m, root)
	if len(l) == 0 {
		return offset
	}
	x := in(g, l...)
	if x.Bits&64 != 0 {
		offset += uint32(128 * g.Intn(32))
	}
	return x.VA + offset
}

// cpu returns a valid processor, with tables at a root, and with addresses in its registers.
func (g maker) cpu(m api.Mem, root uint32) api.CPU {
	c := api.CPU{User: g.Intn(2) == 0, Count: in(g, 0, 1, g.Intn(1000), g.Intn(1<<40), 1<<40-1)}
	for n := range c.C {
		c.C[n] = in(g, g.Uint32(), uint32(g.Intn(32)), g.virtual(m, root))
	}
	c.C[0], c.C[5], c.C[7], c.C[8] = root, uint32(g.Intn(8)), 0, uint32(g.Intn(4))
	for n := range c.R[1:] {
		c.R[1+n] = g.virtual(m, root)
	}
	c.R[1+g.Intn(15)] = in(g, uint32(0), 1, 1<<31, 1<<32-1, g.Uint32())
	c.PC = g.virtual(m, root)
	switch g.Intn(10) {
	case 0:
		c.Waiting = true
	case 1:
		c.Halted = true
	}
	return c
}

// world is what a step depends on.
type world struct {
	c       api.CPU
	m       api.Mem
	pending uint32
}

// world returns a processor, nearly always one that can fetch an instruction, in a memory.
func (g maker) world() world {
	m, root := g.memory()
	c := g.cpu(m, in(g, root, root, root, 0, 0, in(g, g.Uint32(), root+4, uint32(128*len(m.Pages)))))
	for range 20 {
		w, cause := table.Walk(m, c.C[0], c.PC, api.AxFetch, c.User)
		if cause == 0 && c.PC%4 == 0 {
			store(m, w.At, g.any())
			break
		}
		if g.Intn(40) == 0 {
			break
		}
		c.PC = g.virtual(m, c.C[0])
	}
	return world{c, m, in(g, 0, 0, 0, g.Uint32(), uint32(g.Intn(32)), 1<<g.Intn(8))}
}

// sequence returns a world in which many steps are done: a program in a large mapping, with tables of its own.
func (g maker) sequence() world {
	m, _ := memory.New(64)
	for n := range 64 * 32 {
		store(m, 4*n, g.any())
	}
	root := in(g, uint32(0), 128*40)
	if root != 0 {
		for k := range 32 {
			store(m, int(root)+4*k, in(g, 0, g.first(64)))
		}
		store(m, int(root), 64+1+14)
		for k := range 64 {
			store(m, 128*(41+k/32)+4*(k%32), g.entry(64))
		}
		store(m, int(root)+4, 128*41+1)
		store(m, int(root)+8, 128*42+1)
	}
	c := g.cpu(m, root)
	c.PC, c.Waiting, c.Halted = uint32(4*g.Intn(900)), false, false
	c.C[1] = uint32(4 * g.Intn(900))
	c.Count = g.Intn(1000)
	return world{c: c, m: m}
}

// copied returns a memory that shares nothing with another one.
func copied(m api.Mem) api.Mem {
	return api.Mem{Pages: append([]api.Page(nil), m.Pages...)}
}
