package table

import (
	"reflect"
	"slices"
	"testing"

	"simulacrum/api"
	"simulacrum/memory"
)

// sameMem reports whether two memories have the same bytes.
func sameMem(a, b api.Mem) bool { return slices.Equal(a.Pages, b.Pages) }

// scribbled changes all pages of a memory.
func scribbled(m api.Mem) {
	for n := range m.Pages {
		for k := range m.Pages[n] {
			m.Pages[n][k] ^= 0xa5
		}
	}
}

// checkMem compares a changed memory with the one that a rule has, and looks whether it is new memory.
func checkMem(t *testing.T, what string, before, m, got, want api.Mem, e, wantE api.Errno) {
	t.Helper()
	if e != wantE || !sameMem(got, want) {
		t.Fatalf("%s: pages %v differ; the error is %d, not %d", what, memory.Diff(got, want), e, wantE)
	}
	if !sameMem(m, before) {
		t.Fatalf("%s: the argument has changed", what)
	}
	if len(got.Pages) == len(before.Pages) {
		after := copied(got)
		scribbled(got)
		if !sameMem(m, before) {
			t.Fatalf("%s: the result is not new memory", what)
		}
		copy(got.Pages, after.Pages)
	}
}

func checkWalk(t *testing.T, m api.Mem, root, va uint32, access int, user bool) (api.Walk, int) {
	t.Helper()
	before := copied(m)
	got, cause := Walk(m, root, va, access, user)
	want, wantCause := walkRule(before, root, va, access, user)
	if cause != wantCause || got.At != want.At || got.Leaf != want.Leaf || !slices.Equal(got.Set, want.Set) || !slices.Equal(got.Reads, want.Reads) {
		t.Fatalf("P10.1: Walk(%d pages, %d, %d, %d, %v) = %+v, %d, not %+v, %d", len(m.Pages), root, va, access, user, got, cause, want, wantCause)
	}
	if !sameMem(m, before) {
		t.Fatalf("P10.1: Walk(%d, %d) has changed the memory", root, va)
	}
	return got, cause
}

func checkMap(t *testing.T, m api.Mem, root, va, pa uint32, rights int, table uint32) (api.Mem, api.Errno) {
	t.Helper()
	before := copied(m)
	got, e := Map(m, root, va, pa, rights, table)
	want, wantE := mapRule(before, root, va, pa, rights, table)
	checkMem(t, "P10.2: Map", before, m, got, want, e, wantE)
	return got, e
}

func checkMapLarge(t *testing.T, m api.Mem, root, va, pa uint32, rights int) (api.Mem, api.Errno) {
	t.Helper()
	before := copied(m)
	got, e := MapLarge(m, root, va, pa, rights)
	want, wantE := mapLargeRule(before, root, va, pa, rights)
	checkMem(t, "P10.3: MapLarge", before, m, got, want, e, wantE)
	return got, e
}

func checkUnmap(t *testing.T, m api.Mem, root, va uint32) (api.Mem, api.Errno) {
	t.Helper()
	before := copied(m)
	got, e := Unmap(m, root, va)
	want, wantE := unmapRule(before, root, va)
	checkMem(t, "P10.4: Unmap", before, m, got, want, e, wantE)
	return got, e
}

func checkList(t *testing.T, m api.Mem, root uint32) []api.Mapping {
	t.Helper()
	before := copied(m)
	got := List(m, root)
	if want := listRule(before, root); !slices.Equal(got, want) {
		t.Fatalf("P10.5: List(%d pages, %d) = %v, not %v", len(m.Pages), root, got, want)
	}
	if !sameMem(m, before) {
		t.Fatalf("P10.5: List(%d) has changed the memory", root)
	}
	return got
}

// example returns the memory of the chapter's examples, after Map.
func example(t *testing.T) api.Mem {
	t.Helper()
	m, e := Map(zeroed(64), 128, 4224, 256, api.PtWrite, 384)
	if e != api.OK {
		t.Fatalf("P10.2: the example has the error %d", e)
	}
	return m
}

func zeroed(pages int) api.Mem { return api.Mem{Pages: make([]api.Page, pages)} }

func TestConstants(t *testing.T) {
	got := []int{api.PageSize, api.PageWords, api.LargePages, api.MaxVirtual, api.PtValid, api.PtWrite, api.PtUser, api.PtExec, api.PtAccessed, api.PtDirty, api.PtLarge, api.PtRights, api.CaFetch, api.CaLoad, api.CaStore}
	if want := []int{128, 32, 32, 131072, 1, 2, 4, 8, 16, 32, 64, 14, 4, 5, 6}; !slices.Equal(got, want) {
		t.Errorf("the tests have other numbers than package api: %v, %v", want, got)
	}
}

func TestExamples(t *testing.T) {
	m := example(t)
	if wordAt(m, 132) != 385 || wordAt(m, 388) != 259 {
		t.Errorf("P10.2: the words are %d and %d", wordAt(m, 132), wordAt(m, 388))
	}
	reads := []int{132, 388}
	w, cause := Walk(m, 128, 4230, api.AxStore, false)
	if want := (api.Walk{At: 262, Leaf: 388, Set: []api.Write{{At: 388, Size: 4, Value: 307}}, Reads: reads}); cause != 0 || !reflect.DeepEqual(w, want) {
		t.Errorf("P10.1: %+v, %d, not %+v", w, cause, want)
	}
	w, cause = Walk(m, 128, 4230, api.AxLoad, true)
	if want := (api.Walk{Reads: reads}); cause != api.CaLoad || !reflect.DeepEqual(w, want) {
		t.Errorf("P10.1: a load in user mode: %+v, %d", w, cause)
	}
	w, cause = Walk(m, 128, 4230, api.AxFetch, false)
	if want := (api.Walk{Reads: reads}); cause != api.CaFetch || !reflect.DeepEqual(w, want) {
		t.Errorf("P10.1: a fetch: %+v, %d", w, cause)
	}
	m, e := MapLarge(m, 128, 8192, 4096, api.PtExec)
	w, cause = Walk(m, 128, 8192+130, api.AxFetch, false)
	if e != api.OK || cause != 0 || w.At != 4226 || w.Leaf != 136 || !slices.Equal(w.Reads, []int{136}) {
		t.Errorf("P10.3: %+v, %d, %d", w, cause, e)
	}
	w, cause = Walk(m, 0, 100, api.AxLoad, true)
	if want := (api.Walk{At: 100, Leaf: -1}); cause != 0 || !reflect.DeepEqual(w, want) {
		t.Errorf("P10.1: without translation: %+v, %d", w, cause)
	}
	w, cause = Walk(m, 0, 8192, api.AxLoad, false)
	if want := (api.Walk{}); cause != api.CaLoad || !reflect.DeepEqual(w, want) {
		t.Errorf("P10.1: behind the memory, without translation: %+v, %d", w, cause)
	}
	want := []api.Mapping{{VA: 4224, PA: 256, Bits: 3}, {VA: 8192, PA: 4096, Bits: 73}}
	if l := List(m, 128); !slices.Equal(l, want) {
		t.Errorf("P10.5: %v, not %v", l, want)
	}
}

// TestWalkFaults has one fault after the other, with what was read before it.
func TestWalkFaults(t *testing.T) {
	base := example(t)
	for k, x := range []struct {
		at       int
		word     uint32
		root, va uint32
		access   int
		user     bool
		reads    []int
	}{
		{0, 0, 128, 131072, api.AxLoad, false, nil},
		{0, 0, 128, 131072 + 4230, api.AxLoad, false, nil},
		{0, 0, 8192, 4230, api.AxLoad, false, nil},
		{0, 0, 129, 4230, api.AxLoad, false, nil},
		{0, 0, 128 + 1<<31, 4230, api.AxLoad, false, nil},
		{132, 384, 128, 4230, api.AxLoad, false, []int{132}},
		{132, 385 + 2, 128, 4230, api.AxLoad, false, []int{132}},
		{132, 385 + 4, 128, 4230, api.AxLoad, false, []int{132}},
		{132, 385 + 8, 128, 4230, api.AxLoad, false, []int{132}},
		{132, 385 + 16, 128, 4230, api.AxLoad, false, []int{132}},
		{132, 385 + 32, 128, 4230, api.AxLoad, false, []int{132}},
		{132, 385 + 64, 128, 4230, api.AxLoad, false, []int{132}},
		{132, 8193, 128, 4230, api.AxLoad, false, []int{132}},
		{132, 1<<31 + 385, 128, 4230, api.AxLoad, false, []int{132}},
		{132, 2048 + 65, 128, 4230, api.AxLoad, false, []int{132}},
		{132, 8192 + 65, 128, 4230, api.AxLoad, false, []int{132}},
		{132, 1<<32 - 4096 + 65, 128, 4230, api.AxLoad, false, []int{132}},
		{388, 258, 128, 4230, api.AxLoad, false, []int{132, 388}},
		{388, 259 + 64, 128, 4230, api.AxLoad, false, []int{132, 388}},
		{388, 8192 + 3, 128, 4230, api.AxLoad, false, []int{132, 388}},
		{388, 1<<32 - 128 + 3, 128, 4230, api.AxLoad, false, []int{132, 388}},
		{388, 257, 128, 4230, api.AxStore, false, []int{132, 388}},
		{388, 257, 128, 4230, api.AxSwap, false, []int{132, 388}},
		{388, 256 + 1 + 2 + 4, 128, 4230, api.AxFetch, true, []int{132, 388}},
		{388, 256 + 1 + 2 + 8, 128, 4230, api.AxFetch, true, []int{132, 388}},
	} {
		w, cause := checkWalk(t, put(copied(base), x.at, x.word), x.root, x.va, x.access, x.user)
		if cause != causeRule(x.access) || !reflect.DeepEqual(w, api.Walk{Reads: x.reads}) {
			t.Errorf("P10.1: the fault %d: %+v, %d", k, w, cause)
		}
	}
	// With memory at 0, an address that is too large may not be taken modulo 2^17.
	if _, cause := Walk(put(copied(base), 128, 384+1), 128, 131072, api.AxFetch, false); cause != api.CaFetch {
		t.Errorf("P10.1: the address 131072 has the cause %d", cause)
	}
}

// TestLargeLeaf has all pages of large entries in memories that end within them.
func TestLargeLeaf(t *testing.T) {
	for _, pages := range []int{2, 31, 32, 33, 40, 63, 64} {
		m := put(put(zeroed(pages), 128+4*31, 0+64+1+2+8+4), 128+4*3, 4096+64+1)
		for k := range 32 {
			for _, offset := range []uint32{0, 1, 127} {
				for _, access := range accesses() {
					w, cause := checkWalk(t, m, 128, 31*4096+128*uint32(k)+offset, access, k%2 == 0)
					if there := k < pages; there != (cause == 0) || there && w.At != 128*k+int(offset) {
						t.Errorf("P10.1: the page %d of a large entry, in a memory of %d pages: %+v, %d", k, pages, w, cause)
					}
					w, cause = checkWalk(t, m, 128, 3*4096+128*uint32(k)+offset, access, false)
					if there := access == api.AxLoad && 32+k < pages; there != (cause == 0) || there && w.At != 4096+128*k+int(offset) {
						t.Errorf("P10.1: the page %d of the second large entry, in a memory of %d pages: %+v, %d", k, pages, w, cause)
					}
				}
			}
		}
		checkList(t, m, 128)
	}
}

// TestSet has all flags of a leaf, and what each access makes of them.
func TestSet(t *testing.T) {
	for flags := range uint32(64) {
		for _, access := range accesses() {
			for _, user := range []bool{false, true} {
				w, cause := checkWalk(t, put(example(t), 388, 256|flags), 128, 4230, access, user)
				if len(w.Set) > 0 && w.Set[0].Value == 256|flags {
					t.Errorf("P10.1: a leaf with the flags %d, and the access %d: %+v sets nothing new", flags, access, w)
				}
				checkWalk(t, put(example(t), 132, 4096+64|flags), 128, 4230, access, user)
				if flags&1 == 0 && cause == 0 {
					t.Errorf("P10.1: a leaf that is not valid has no fault: %+v", w)
				}
			}
		}
	}
}

func TestMapErrors(t *testing.T) {
	base := example(t)
	large, _ := MapLarge(base, 128, 8192, 4096, 0)
	broken := put(copied(large), 140, 8192+1)
	wrong := put(copied(large), 140, 385+16)
	for k, x := range []struct {
		m            api.Mem
		root, va, pa uint32
		rights       int
		table        uint32
		want         api.Errno
	}{
		{base, 128, 4224 + 128, 256, 14, 0, api.OK},
		{base, 128, 4224 + 128, 0, 0, 1, api.OK},
		{base, 128, 131072 - 128, 8064, 2, 512, api.OK},
		{base, 128, 131072, 256, 2, 512, api.ErrArg},
		{base, 128, 4224 + 129, 256, 2, 512, api.ErrArg},
		{base, 128, 4224 + 64, 256, 2, 512, api.ErrArg},
		{base, 128, 4352, 8192, 2, 512, api.ErrArg},
		{base, 128, 4352, 257, 2, 512, api.ErrArg},
		{base, 128, 4352, 256, 1, 512, api.ErrArg},
		{base, 128, 4352, 256, 16, 512, api.ErrArg},
		{base, 128, 4352, 256, 64, 512, api.ErrArg},
		{base, 128, 4352, 256, -2, 512, api.ErrArg},
		{base, 128, 4352, 256, 2 + 1<<32, 512, api.ErrArg},
		{base, 0, 4352, 256, 2, 512, api.ErrArg},
		{base, 8192, 4352, 256, 2, 512, api.ErrArg},
		{base, 132, 4352, 256, 2, 512, api.ErrArg},
		{base, 128, 0, 256, 2, 0, api.ErrArg},
		{base, 128, 0, 256, 2, 128, api.ErrArg},
		{base, 128, 0, 256, 2, 8192, api.ErrArg},
		{base, 128, 0, 256, 2, 513, api.ErrArg},
		{base, 128, 0, 256, 2, 384, api.OK},
		{base, 128, 0, 512, 2, 512, api.OK},
		{base, 128, 4224, 256, 2, 0, api.ErrTwice},
		{large, 128, 8192, 256, 2, 512, api.ErrTwice},
		{large, 128, 8192 + 128, 256, 2, 0, api.ErrTwice},
		{broken, 128, 12288, 256, 2, 0, api.ErrForm},
		{wrong, 128, 12288 + 128, 256, 2, 0, api.ErrForm},
		{wrong, 128, 12288 + 128, 256, 1, 0, api.ErrArg},
		{put(copied(base), 140, 2048+65), 128, 12288, 256, 2, 0, api.ErrForm},
		{put(copied(base), 140, 8192+65), 128, 12288, 256, 2, 0, api.ErrTwice},
		{put(copied(base), 388, 8192+1), 128, 4224, 256, 2, 0, api.ErrTwice},
		{put(copied(base), 388, 1<<32-1), 128, 4224, 256, 2, 0, api.ErrTwice},
		{put(copied(base), 388, 1<<32-2), 128, 4224, 256, 2, 0, api.OK},
		{put(copied(base), 128, 1<<32-2), 128, 0, 256, 2, 512, api.OK},
	} {
		if _, e := checkMap(t, x.m, x.root, x.va, x.pa, x.rights, x.table); e != x.want {
			t.Errorf("P10.2: the call %d has the error %d, not %d", k, e, x.want)
		}
	}
}

func TestMapLargeErrors(t *testing.T) {
	base := example(t)
	short := copied(base)
	short.Pages = short.Pages[:32]
	for k, x := range []struct {
		m            api.Mem
		root, va, pa uint32
		rights       int
		want         api.Errno
	}{
		{base, 128, 8192, 0, 0, api.OK},
		{base, 128, 126976, 4096, 14, api.OK},
		{short, 128, 8192, 4096, 0, api.ErrArg},
		{short, 128, 8192, 0, 0, api.OK},
		{base, 128, 131072, 0, 0, api.ErrArg},
		{base, 128, 8192 + 128, 0, 0, api.ErrArg},
		{base, 128, 8192, 128, 0, api.ErrArg},
		{base, 128, 8192, 2048, 0, api.ErrArg},
		{base, 128, 8192, 8192, 0, api.ErrArg},
		{base, 128, 8192, 0, 64, api.ErrArg},
		{base, 128, 8192, 0, -1, api.ErrArg},
		{base, 0, 8192, 0, 0, api.ErrArg},
		{base, 8192, 8192, 0, 0, api.ErrArg},
		{base, 192, 8192, 0, 0, api.ErrArg},
		{base, 128, 4096, 0, 0, api.ErrTwice},
		{base, 128, 4096, 0, 1, api.ErrArg},
		{put(copied(base), 136, 1), 128, 8192, 0, 0, api.ErrTwice},
		{put(copied(base), 136, 1<<32-1), 128, 8192, 0, 0, api.ErrTwice},
		{put(copied(base), 136, 1<<32-2), 128, 8192, 0, 0, api.OK},
	} {
		if _, e := checkMapLarge(t, x.m, x.root, x.va, x.pa, x.rights); e != x.want {
			t.Errorf("P10.3: the call %d has the error %d, not %d", k, e, x.want)
		}
	}
}

func TestUnmapErrors(t *testing.T) {
	base := example(t)
	large, _ := MapLarge(base, 128, 8192, 4096, 0)
	for k, x := range []struct {
		m        api.Mem
		root, va uint32
		want     api.Errno
	}{
		{base, 128, 4224, api.OK},
		{base, 128, 4230, api.OK},
		{base, 128, 4351, api.OK},
		{large, 128, 8192, api.OK},
		{large, 128, 12287, api.OK},
		{base, 128, 131072 + 4224, api.ErrArg},
		{base, 0, 4224, api.ErrArg},
		{base, 8192, 4224, api.ErrArg},
		{base, 129, 4224, api.ErrArg},
		{base, 128, 4223, api.ErrName},
		{base, 128, 4352, api.ErrName},
		{base, 128, 8192, api.ErrName},
		{put(copied(base), 132, 385+8), 128, 4224, api.ErrForm},
		{put(copied(base), 132, 8192+1), 128, 4224, api.ErrForm},
		{put(copied(base), 132, 2048+65), 128, 4224, api.ErrForm},
		{put(copied(base), 132, 2048+64), 128, 4224, api.ErrName},
		{put(copied(base), 132, 1<<20+65), 128, 4224, api.OK},
		{put(copied(base), 388, 1<<32-1), 128, 4224, api.OK},
		{put(copied(base), 388, 1<<32-2), 128, 4224, api.ErrName},
	} {
		if _, e := checkUnmap(t, x.m, x.root, x.va); e != x.want {
			t.Errorf("P10.4: the call %d has the error %d, not %d", k, e, x.want)
		}
	}
}

func TestLists(t *testing.T) {
	m := example(t)
	for _, root := range []uint32{0, 1, 129, 8192, 1<<31 + 128} {
		if l := checkList(t, m, root); len(l) != 0 {
			t.Errorf("P10.5: List of the root %d is %v", root, l)
		}
	}
	// The table is its own second-level table, and another entry names the same table as the first one.
	m = put(put(m, 128, 128+1), 136, 385)
	want := []api.Mapping{{VA: 0, PA: 128, Bits: 1}, {VA: 128, PA: 384, Bits: 1}, {VA: 256, PA: 384, Bits: 1}, {VA: 4224, PA: 256, Bits: 3}, {VA: 8320, PA: 256, Bits: 3}}
	if l := checkList(t, m, 128); !slices.Equal(l, want) {
		t.Errorf("P10.5: %v, not %v", l, want)
	}
	full := zeroed(64)
	for k := range 32 {
		full = put(put(full, 128+4*k, 256+1), 256+4*k, uint32(128*k)+1)
	}
	if l := checkList(t, full, 128); len(l) != 1024 || l[1023] != (api.Mapping{VA: 131072 - 128, PA: 31 * 128, Bits: 1}) {
		t.Errorf("P10.5: %d mappings", len(l))
	}
}

// TestRandom compares all functions with the rules, in memories with tables of all kinds.
func TestRandom(t *testing.T) {
	g := newMaker(10)
	for range 3000 {
		m, root := g.memory()
		for range 10 {
			checkWalk(t, m, g.root(m, root), g.virtual(), in(g, accesses()...), g.Intn(2) == 0)
			va, pa := g.virtual(), g.page(m)
			checkUnmap(t, m, g.root(m, root), va)
			if g.Intn(10) > 0 {
				va &^= 127
			}
			checkMap(t, m, g.root(m, root), va, pa, g.rights(), in(g, root, g.page(m), g.page(m), g.page(m)))
			checkMapLarge(t, m, g.root(m, root), va&^4095, pa&^4095, g.rights())
		}
		checkMapLarge(t, m, root, g.virtual(), g.page(m), g.rights())
		checkList(t, m, root)
		checkList(t, m, g.root(m, root))
	}
}
