package table

import (
	"math/rand"

	"simulacrum/api"
)

// maker makes memories with tables, right ones and others, and addresses in them.
type maker struct{ *rand.Rand }

func newMaker(seed int64) maker { return maker{rand.New(rand.NewSource(seed))} }

// in returns one of some values.
func in[V any](g maker, l ...V) V { return l[g.Intn(len(l))] }

// page returns a page address, seldom one that is behind the memory or between two pages.
func (g maker) page(m api.Mem) uint32 {
	at := uint32(128 * g.Intn(len(m.Pages)))
	switch g.Intn(25) {
	case 0:
		return uint32(128 * len(m.Pages))
	case 1:
		return at + in(g, uint32(1), 4, 64, 127)
	case 2:
		return g.Uint32()
	}
	return at
}

// first returns an entry of a first-level table.
func (g maker) first(m api.Mem) uint32 {
	switch g.Intn(12) {
	case 0, 1, 2:
		return 0
	case 3:
		return g.Uint32()
	case 4:
		return g.page(m) | 1 | 1<<g.Intn(6)
	case 5, 6, 7:
		return in(g, uint32(0), 0, 4096, 4096, 128, 2048, 8192, 1<<31, 1<<32-4096) | 64 | in(g, uint32(1), 1, 1, 0) | uint32(g.Intn(32)*2)
	}
	return uint32(128*g.Intn(len(m.Pages))) + 1
}

// second returns an entry of a second-level table.
func (g maker) second(m api.Mem) uint32 {
	flags := uint32(g.Intn(64)) | in(g, uint32(1), 1, 0)
	switch g.Intn(15) {
	case 0:
		return g.Uint32()
	case 1:
		return 0
	case 2:
		return g.page(m)&^127 | flags | 64
	case 3:
		return uint32(128*g.Intn(80)) | flags
	}
	return uint32(128*g.Intn(len(m.Pages))) | flags
}

// memory returns a memory, and the root of tables in it. Pages that no first-level entry names are tables as well, or noise.
func (g maker) memory() (api.Mem, uint32) {
	m := api.Mem{Pages: make([]api.Page, in(g, 1, 2, 3, 8, 31, 32, 33, 63, 64, 1+g.Intn(64)))}
	for n := range m.Pages {
		for k := range 32 {
			m = put(m, 128*n+4*k, g.second(m))
		}
	}
	root := uint32(128 * g.Intn(len(m.Pages)))
	for k := range 32 {
		m = put(m, int(root)+4*k, g.first(m))
	}
	// Some entries name the root itself, or a table that another one names.
	for range g.Intn(3) {
		m = put(m, int(root)+4*g.Intn(32), root+1)
		m = put(m, int(root)+4*g.Intn(32), wordAt(m, int(root)+4*g.Intn(32)))
	}
	return m, root
}

// put changes a word of a memory in its place.
func put(m api.Mem, at int, word uint32) api.Mem {
	for n := range 4 {
		m.Pages[at/128][at%128+n] = byte(word >> (8 * n))
	}
	return m
}

func wordAt(m api.Mem, at int) uint32 { return tableAt(m, at/128*128)[at%128/4] }

// virtual returns a virtual address, seldom one that is too large.
func (g maker) virtual() uint32 {
	switch g.Intn(30) {
	case 0:
		return 131072 + uint32(g.Intn(4096))
	case 1:
		return g.Uint32()
	}
	return uint32(g.Intn(131072))
}

// root returns nearly always the root itself.
func (g maker) root(m api.Mem, root uint32) uint32 {
	switch g.Intn(20) {
	case 0:
		return 0
	case 1:
		return g.page(m)
	case 2:
		return root + in(g, uint32(1), 4, 64, 1<<16, 1<<31)
	}
	return root
}

// rights returns bits of api.PtRights, seldom others.
func (g maker) rights() int {
	if g.Intn(12) == 0 {
		return in(g, -1, 1, 3, 16, 15, 32, 64, 128, 1<<40, -1<<63)
	}
	return 2 * g.Intn(8)
}

// accesses returns all accesses.
func accesses() []int { return []int{api.AxLoad, api.AxStore, api.AxSwap, api.AxFetch} }
