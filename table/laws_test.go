package table

import (
	"reflect"
	"testing"

	"simulacrum/api"
	"simulacrum/memory"
)

// everywhere yields one address of each virtual page, and one behind them.
func everywhere(g maker) []uint32 {
	var out []uint32
	for page := range uint32(1024) {
		out = append(out, 128*page+uint32(g.Intn(128)))
	}
	return append(out, 131072+uint32(g.Intn(128)))
}

// checkSet has P10.6 for one address and access.
func checkSet(t *testing.T, m api.Mem, root, va uint32, access int, user bool) {
	t.Helper()
	w, cause := Walk(m, root, va, access, user)
	if cause != 0 {
		return
	}
	if w.At < 0 || w.At >= 128*len(m.Pages) || w.At%128 != int(va%128) || len(w.Set) > 1 {
		t.Fatalf("P10.6: Walk(%d pages, %d, %d) = %+v", len(m.Pages), root, va, w)
	}
	after, ok := memory.Apply(m, w.Set)
	if !ok {
		t.Fatalf("P10.6: Walk(%d pages, %d, %d) sets %+v", len(m.Pages), root, va, w.Set)
	}
	for _, s := range w.Set {
		if before, _ := memory.Load(m, w.Leaf, 4); s.At != w.Leaf || (s.Value^before)&^uint32(48) != 0 {
			t.Fatalf("P10.6: the leaf %#x at %d becomes %+v", before, w.Leaf, s)
		}
	}
	if len(w.Reads) == 2 && w.Reads[0] == w.Leaf {
		return
	}
	again, cause := Walk(after, root, va, access, user)
	if cause != 0 || again.At != w.At || again.Leaf != w.Leaf || len(again.Set) != 0 {
		t.Fatalf("P10.6: after %+v the same access has %+v, %d", w, again, cause)
	}
}

func TestSetOnce(t *testing.T) {
	g := newMaker(106)
	for range 60 {
		m, root := g.memory()
		for _, va := range everywhere(g) {
			for _, access := range accesses() {
				checkSet(t, m, in(g, root, root, root, 0), va, access, g.Intn(2) == 0)
			}
		}
	}
}

// TestOwnLeaf has the exception of P10.6: a first-level entry that points to its own table is the leaf.
func TestOwnLeaf(t *testing.T) {
	m := put(zeroed(4), 128+4*5, 128+1)
	va := uint32(4096*5 + 128*5 + 7)
	w, cause := checkWalk(t, m, 128, va, api.AxLoad, false)
	if cause != 0 || w.At != 135 || w.Leaf != 148 || !reflect.DeepEqual(w.Set, []api.Write{{At: 148, Size: 4, Value: 128 + 17}}) {
		t.Fatalf("P10.1: %+v, %d", w, cause)
	}
	after, _ := memory.Apply(m, w.Set)
	if w, cause := checkWalk(t, after, 128, va, api.AxLoad, false); cause != api.CaLoad || !reflect.DeepEqual(w, api.Walk{Reads: []int{148}}) {
		t.Errorf("P10.1: after its own entry was set: %+v, %d", w, cause)
	}
	// Another entry of the first-level table as leaf stays what it is.
	checkSet(t, put(m, 128+4*6, 256+15), 128, 4096*5+128*6, api.AxStore, true)
}

// TestMoreRights has P10.7.
func TestMoreRights(t *testing.T) {
	g := newMaker(107)
	for range 60 {
		m, root := g.memory()
		root = in(g, root, root, root, 0)
		for _, va := range everywhere(g) {
			for _, access := range accesses() {
				w, cause := Walk(m, root, va, access, true)
				if kernel, c := Walk(m, root, va, access, false); cause == 0 && (c != 0 || !reflect.DeepEqual(kernel, w)) {
					t.Fatalf("P10.7: Walk(%d, %d, %d) = %+v in user mode, and %+v, %d in kernel mode", root, va, access, w, kernel, c)
				}
			}
			for _, user := range []bool{false, true} {
				w, cause := Walk(m, root, va, api.AxStore, user)
				if load, c := Walk(m, root, va, api.AxLoad, user); cause == 0 && (c != 0 || load.At != w.At || load.Leaf != w.Leaf) {
					t.Fatalf("P10.7: Walk(%d, %d) = %+v for a store, and %+v, %d for a load", root, va, w, load, c)
				}
			}
		}
	}
}

// leads returns where an address leads for each access, -1 for a fault.
func leads(m api.Mem, root, va uint32) [8]int {
	var out [8]int
	for k, access := range accesses() {
		for n, user := range []bool{false, true} {
			w, cause := Walk(m, root, va, access, user)
			out[2*k+n] = w.At
			if cause != 0 {
				out[2*k+n] = -1
			}
		}
	}
	return out
}

// asFar returns where an address leads that is mapped to pa with some rights.
func asFar(pa, va uint32, rights int) [8]int {
	at := int(pa + va%128)
	out := [8]int{at, -1, -1, -1, -1, -1, -1, -1}
	user, write, exec := rights&4 != 0, rights&2 != 0, rights&8 != 0
	for k, ok := range [8]bool{true, user, write, write && user, write, write && user, exec, exec && user} {
		if ok {
			out[k] = at
		}
	}
	return out
}

// ofItsOwn reports whether a second-level table is neither the root nor the table of another first-level entry than that of va, and the root is the second-level table of none.
func ofItsOwn(m api.Mem, root, va, table uint32) bool {
	if table == root {
		return false
	}
	for k, word := range tableAt(m, int(root)) {
		e := splitOf(word)
		if !e.valid || e.large {
			continue
		}
		if e.address == int(root) || e.address == int(table) && k != firstPlace(va) {
			return false
		}
	}
	return true
}

// TestMapped has P10.8 for Map and Unmap.
func TestMapped(t *testing.T) {
	g := newMaker(108)
	mapped, own := 0, 0
	for range 400 {
		m, root := g.memory()
		for range 6 {
			va, pa, rights, table := g.virtual()&^127, g.page(m), 2*g.Intn(8), g.page(m)
			after, e := Map(m, root, va, pa, rights, table)
			if e != api.OK {
				continue
			}
			mapped++
			second := uint32(splitOf(tableAt(after, int(root))[firstPlace(va)]).address)
			for _, offset := range []uint32{0, 5, 127} {
				if got := leads(after, root, va+offset); got != asFar(pa, va+offset, rights) {
					t.Fatalf("P10.8: after Map of %d to %d with %d, %d leads to %v", va, pa, rights, va+offset, got)
				}
			}
			if ofItsOwn(after, root, va, second) {
				own++
				checkOthers(t, g, m, after, root, va)
			}
			checkGone(t, after, root, va)
		}
	}
	if mapped < 300 || own < 50 {
		t.Errorf("P10.8: only %d pages were mapped, %d of them in tables of their own", mapped, own)
	}
}

// checkOthers looks whether all pages but that of va lead where they led.
func checkOthers(t *testing.T, g maker, m, after api.Mem, root, va uint32) {
	t.Helper()
	for _, other := range everywhere(g) {
		if other&^127 == va {
			continue
		}
		if was, is := leads(m, root, other), leads(after, root, other); was != is {
			t.Fatalf("P10.8: after Map of %d, %d leads to %v, not %v", va, other, is, was)
		}
	}
}

// checkGone looks whether the addresses of a leaf fault after Unmap.
func checkGone(t *testing.T, m api.Mem, root, va uint32) {
	t.Helper()
	w, _ := Walk(m, root, va, api.AxLoad, false)
	after, e := Unmap(m, root, va)
	if e != api.OK {
		t.Fatalf("P10.4: Unmap(%d) of a page that is mapped has the error %d", va, e)
	}
	from, to := va&^127, va|127
	if len(w.Reads) == 1 {
		from, to = va&^4095, va|4095
	}
	for at := from; at <= to; at += 31 {
		if got := leads(after, root, at); got != [8]int{-1, -1, -1, -1, -1, -1, -1, -1} {
			t.Fatalf("P10.8: after Unmap(%d), %d leads to %v", va, at, got)
		}
	}
}

// built is tables that grow by Map, MapLarge and Unmap, and what they should map: the physical page and the rights of each virtual page.
type built struct {
	mem    api.Mem
	root   uint32
	pa     map[uint32]uint32
	rights map[uint32]int
}

// page maps one page, with a table that no other first-level entry has.
func (b *built) page(t *testing.T, g maker, free uint32) {
	va, pa, rights := uint32(128*g.Intn(1024)), uint32(128*g.Intn(64)), 2*g.Intn(8)
	m, e := Map(b.mem, b.root, va, pa, rights, free+va/4096*128)
	_, there := b.pa[va]
	if (e == api.ErrTwice) != there || e != api.OK && e != api.ErrTwice {
		t.Fatalf("P10.2: Map of %d has the error %d; is it mapped: %v", va, e, there)
	}
	if b.mem = m; e == api.OK {
		b.pa[va], b.rights[va] = pa, rights
	}
}

func (b *built) large(g maker) {
	va, pa, rights := uint32(4096*g.Intn(32)), uint32(4096*g.Intn(2)), 2*g.Intn(8)
	m, e := MapLarge(b.mem, b.root, va, pa, rights)
	if b.mem = m; e == api.OK {
		for k := range uint32(32) {
			b.pa[va+128*k], b.rights[va+128*k] = pa+128*k, rights
		}
	}
}

func (b *built) unmap(t *testing.T, g maker) {
	va := uint32(g.Intn(131072))
	w, cause := Walk(b.mem, b.root, va, api.AxLoad, false)
	m, e := Unmap(b.mem, b.root, va)
	if e == api.OK != (cause == 0) || e != api.OK && e != api.ErrName {
		t.Fatalf("P10.4: Unmap(%d) has the error %d, and a load the cause %d", va, e, cause)
	}
	if b.mem = m; e != api.OK {
		return
	}
	from, n := va&^127, uint32(1)
	if len(w.Reads) == 1 {
		from, n = va&^4095, 32
	}
	for k := range n {
		delete(b.pa, from+128*k)
	}
}

// check looks whether all pages lead where they should.
func (b *built) check(t *testing.T, g maker) {
	t.Helper()
	for _, va := range everywhere(g)[:1024] {
		want := [8]int{-1, -1, -1, -1, -1, -1, -1, -1}
		if pa, there := b.pa[va&^127]; there {
			want = asFar(pa, va, b.rights[va&^127])
		}
		if got := leads(b.mem, b.root, va); got != want {
			t.Fatalf("P10.8: %d leads to %v, not %v", va, got, want)
		}
	}
}

// TestBuilt has P10.8 for tables that are built from nothing.
func TestBuilt(t *testing.T) {
	g := newMaker(111)
	for range 12 {
		root := uint32(128 * (1 + g.Intn(20)))
		b := built{zeroed(64), root, map[uint32]uint32{}, map[uint32]int{}}
		for k := range 100 {
			switch g.Intn(8) {
			case 0:
				b.large(g)
			case 1, 2:
				b.unmap(t, g)
			default:
				b.page(t, g, 32*128)
			}
			if k%10 == 9 {
				b.check(t, g)
			}
		}
	}
}

// TestLargeGone has P10.8 for the leaves of MapLarge.
func TestLargeGone(t *testing.T) {
	g := newMaker(109)
	for range 300 {
		m, root := g.memory()
		va := g.virtual() & 131071 &^ 4095
		after, e := MapLarge(m, root, va, 0, 2*g.Intn(8))
		if e == api.OK {
			checkGone(t, after, root, va+uint32(g.Intn(128*min(32, len(m.Pages)))))
		}
	}
}

// TestListed has P10.9: what a load in kernel mode finds is what List has.
func TestListed(t *testing.T) {
	g := newMaker(110)
	for range 150 {
		m, root := g.memory()
		if root = g.root(m, root); root == 0 {
			continue
		}
		places := map[uint32]uint32{}
		for _, x := range List(m, root) {
			for k := range uint32(32) {
				if x.Bits&64 != 0 && int(x.PA+128*k) < 128*len(m.Pages) {
					places[x.VA+128*k] = x.PA + 128*k
				}
			}
			if x.Bits&64 == 0 {
				places[x.VA] = x.PA
			}
		}
		for _, va := range everywhere(g) {
			pa, there := places[va&^127]
			w, cause := Walk(m, root, va, api.AxLoad, false)
			if there != (cause == 0) || there && w.At != int(pa+va%128) {
				t.Fatalf("P10.9: List(%d) has %v for %d, and a load %+v, %d", root, there, va, w, cause)
			}
		}
	}
}

// TestEveryCallReturns has arguments of all kinds, also those for which nothing is specified (P1).
func TestEveryCallReturns(t *testing.T) {
	defer func() {
		if r := recover(); r != nil {
			t.Errorf("P1: a call panics: %v", r)
		}
	}()
	numbers := []uint32{0, 1, 127, 128, 132, 4096, 8064, 8192, 131071, 131072, 1 << 31, 1<<32 - 128, 1<<32 - 1}
	for _, pages := range []int{0, 1, 2, 64, 65, 2000} {
		m := zeroed(pages)
		for n := range m.Pages {
			for k := range 32 {
				m = put(m, 128*n+4*k, numbers[(n+k)%len(numbers)]|uint32(n))
			}
		}
		for _, root := range numbers {
			List(m, root)
			for _, va := range numbers {
				for _, access := range []int{-1 << 63, -1, 0, 1, 2, 3, 4, 5, 1<<63 - 1} {
					Walk(m, root, va, access, access%2 == 0)
				}
				Unmap(m, root, va)
				for _, pa := range []uint32{0, 128, 4096, 1<<32 - 128} {
					Map(m, root, va, pa, int(va), root^pa)
					Map(m, root, va, pa, -1<<63, pa)
					MapLarge(m, root, va, pa, int(root))
				}
			}
		}
	}
}
