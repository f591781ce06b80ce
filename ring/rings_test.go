package ring

import (
	"math/rand"

	"simulacrum/api"
)

// maker makes memories with rings, right ones and others.
type maker struct{ *rand.Rand }

func newMaker(seed int64) maker { return maker{rand.New(rand.NewSource(seed))} }

// in returns one of some values.
func in[V any](g maker, l ...V) V { return l[g.Intn(len(l))] }

// put changes words of a memory in their place.
func put(m api.Mem, at int, words ...uint32) api.Mem {
	for k, w := range words {
		for n := range 4 {
			m.Pages[(at+4*k)/128][(at+4*k)%128+n] = byte(w >> (8 * n))
		}
	}
	return m
}

// copied returns a memory that shares nothing with another one.
func copied(m api.Mem) api.Mem {
	return api.Mem{Pages: append([]api.Page(nil), m.Pages...)}
}

// noise returns a memory of arbitrary bytes.
func (g maker) noise(pages int) api.Mem {
	m := api.Mem{Pages: make([]api.Page, pages)}
	for n := range m.Pages {
		g.Read(m.Pages[n][:])
	}
	return m
}

// ring returns a ring that is there, often at an end of the memory.
func (g maker) ring(m api.Mem) api.Ring {
	size := in(g, 1, 2, 4, 4, 8, 8, 8)
	last := 8*len(m.Pages) - size
	return api.Ring{Base: uint32(16 * in(g, 0, last, g.Intn(last+1), g.Intn(last+1))), Size: uint32(size)}
}

// length returns the length of a part, seldom one that there is not.
func (g maker) length() uint32 {
	if g.Intn(20) == 0 {
		return in(g, uint32(0), 513, 514, 1024, 256*256+1, 1<<24+1, 1<<31, 1<<31+8, 1<<32-1, 1<<32-512)
	}
	return in(g, uint32(1), 2, 511, 512, uint32(1+g.Intn(512)), uint32(1+g.Intn(32)), uint32(1+g.Intn(32)))
}

// address returns where a part is: in the memory, in the ring or at the end of the memory, seldom where it is not.
func (g maker) address(m api.Mem, r api.Ring, length uint32) uint32 {
	size := 128 * len(m.Pages)
	last := size - int(length)
	switch {
	case g.Intn(20) == 0 || length > 512 || last < 0:
		return in(g, uint32(size), uint32(last+1), uint32(last+2), uint32(size+1), 1<<31, 1<<32-1, -length, g.Uint32())
	case g.Intn(8) == 0:
		return uint32(last)
	case g.Intn(6) == 0:
		return min(r.Base+uint32(g.Intn(16*int(r.Size))), uint32(last))
	}
	return uint32(g.Intn(last + 1))
}

// status returns the status of a descriptor, most often StOffered.
func (g maker) status() uint32 {
	if g.Intn(12) == 0 {
		return in(g, uint32(0), 2, 3, 4, 5, 6, 7, 8, 9, 257, 1<<16+1, 1<<24+1, 1<<31+1, 1<<32-1)
	}
	return 1
}

// flags returns the flags of a descriptor, seldom wrong ones; next is less than 0 if none follows.
func (g maker) flags(next int, written bool) uint32 {
	out := uint32(0)
	if next >= 0 {
		out = 2 + 256*uint32(next)
	}
	if written {
		out++
	}
	switch g.Intn(40) {
	case 0, 1:
		return out | in(g, uint32(4), 8, 16, 32, 64, 128, 1<<16, 1<<17, 1<<24, 1<<30, 1<<31, g.Uint32())
	case 2:
		return out ^ in(g, uint32(1), 2, 256, 512, 1024, 2048, 1<<15)
	}
	return out
}

// request puts a request into the ring that goes through some of its descriptors, and returns the first one of them.
func (g maker) request(m api.Mem, r api.Ring, order []int) int {
	writes := g.Intn(len(order) + 1) // the place of the first one that is written
	for k, i := range order {
		next := -1
		switch {
		case k+1 < len(order):
			next = order[k+1]
		case g.Intn(10) == 0:
			next = in(g, order[0], i, in(g, order...), int(r.Size), int(r.Size)-1, 255)
		}
		written := k >= writes
		if g.Intn(20) == 0 {
			written = !written
		}
		n := g.length()
		put(m, int(r.Base)+16*i, g.address(m, r, n), n, g.flags(next, written), g.status())
	}
	return order[0]
}

// memory returns a memory and a ring in it: what is in it, are requests of one descriptor or several.
func (g maker) memory() (api.Mem, api.Ring) {
	m := g.noise(in(g, 1, 2, 3, 5, 8, 8, 16, 64, 1+g.Intn(64)))
	r := g.ring(m)
	for left := g.Perm(int(r.Size)); len(left) > 0; {
		n := min(in(g, 1, 2, 3, 4, 4, 5, 8), len(left))
		g.request(m, r, left[:n])
		left = left[n:]
	}
	return m, r
}

// wild returns a memory and a ring in which each word is any: many are small, so that they mean something.
func (g maker) wild() (api.Mem, api.Ring) {
	m := g.noise(in(g, 1, 2, 4, 8, 64))
	r := g.ring(m)
	for k := range 4 * int(r.Size) {
		w := in(g, uint32(g.Intn(4)), 1, 1, 1, 2, 3, uint32(2+256*g.Intn(9)), uint32(3+256*g.Intn(9)), uint32(g.Intn(1024)), g.Uint32())
		put(m, int(r.Base)+4*k, w)
	}
	return m, r
}

// text returns so many arbitrary bytes.
func (g maker) text(n int) string {
	b := make([]byte, n)
	g.Read(b)
	return string(b)
}

// data returns bytes to be written to parts: fewer than there is room for, as many, or more.
func (g maker) data(l []api.Part) string {
	room := roomRule(l)
	return g.text(in(g, 0, 1, room, room+1, max(0, room-1), 2*room, g.Intn(room+2)))
}

// parts returns parts that a request may have, each one in the memory; they may have common bytes.
func (g maker) parts(m api.Mem) []api.Part {
	var out []api.Part
	size := 128 * len(m.Pages)
	indices, writes, n := g.Perm(8), g.Intn(5), 1+g.Intn(4)
	for k := range n {
		length := min(in(g, 1, 2, 512, 1+g.Intn(512), 1+g.Intn(20)), size)
		out = append(out, api.Part{Index: indices[k], At: in(g, 0, size-length, g.Intn(size-length+1)), Len: length, Write: k >= writes})
	}
	return out
}
