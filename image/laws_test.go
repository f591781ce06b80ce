package image

import (
	"slices"
	"testing"

	"simulacrum/api"
	"simulacrum/memory"
)

// checkAgain checks P9.5: Load of Of is the memory, and Of of that is the image again.
func checkAgain(t *testing.T, m api.Mem, entry int, disk []api.Page) {
	t.Helper()
	i, e := Of(m, entry, disk)
	if e != api.OK || Check(i) != api.OK {
		t.Fatalf("P9.6: Of(%d pages, %d, %d sectors) has the error %d, and its image the error %d", len(m.Pages), entry, len(disk), e, Check(i))
	}
	again, e := Load(i)
	if e != api.OK || !slices.Equal(again.Pages, m.Pages) {
		t.Fatalf("P9.5: Load of Of has other bytes in the pages %v, and the error %d", memory.Diff(again, m), e)
	}
	if j, e := Of(again, i.Entry, i.Disk); e != api.OK || !same(j, i) {
		t.Fatalf("P9.5: Of of Load of %+v is %+v, %d", i, j, e)
	}
	had := map[int]bool{}
	for _, s := range i.Segments {
		if page := s.At / 128; had[page] || (s.At+len(s.Data)-1)/128 != page {
			t.Fatalf("P9.5: %+v has more than one segment in a page, or one in two pages", i)
		} else {
			had[page] = true
		}
	}
}

func TestMemoryAgain(t *testing.T) {
	for pages := 1; pages <= 64; pages++ {
		checkAgain(t, api.Mem{Pages: make([]api.Page, pages)}, 0, nil)
	}
	g := newMaker(96)
	for range 2000 {
		m := g.memory()
		checkAgain(t, m, 4*g.Intn(32*len(m.Pages)), g.disk())
		loaded, _ := Load(g.image())
		checkAgain(t, loaded, 0, g.disk())
	}
}

// TestImageAgain has P9.6: a right image is encoded and decoded.
func TestImageAgain(t *testing.T) {
	g := newMaker(97)
	for range 1500 {
		i := g.image()
		checkImageAgain(t, i)
		of, _ := Of(g.memory(), 0, g.disk())
		checkImageAgain(t, of)
	}
	checkImageAgain(t, api.Image{Pages: 1})
	checkImageAgain(t, api.Image{Pages: 64, Entry: 8188, Segments: []api.Segment{{Data: g.bytes(8192)}}, Disk: make([]api.Page, 64)})
}

func checkImageAgain(t *testing.T, i api.Image) {
	t.Helper()
	b := Encode(i)
	if j, e := Decode(b); e != api.OK || !same(j, i) {
		t.Fatalf("P9.6: Decode of Encode(%+v) = %+v, %d", i, j, e)
	}
	for n := 0; n < len(b); n = min(n+1+n/50, max(n+1, len(b)-3)) {
		if _, e := Decode(b[:n]); e != api.ErrTruncated {
			t.Fatalf("P9.4: the first %d bytes of Encode(%+v) have the error %d", n, i, e)
		}
	}
}

// TestOneHolder has P9.7 for all addresses of right images.
func TestOneHolder(t *testing.T) {
	g := newMaker(98)
	for range 150 {
		i := g.image()
		m, _ := Load(i)
		for at := range memory.Size(m) {
			got, ok := memory.Load(m, at, 1)
			want := byte(0)
			l := holders(i, at)
			if len(l) == 1 {
				s := i.Segments[l[0]]
				want = s.Data[at-s.At]
			}
			if len(l) > 1 || !ok || byte(got) != want {
				t.Fatalf("P9.7: the byte at %d of %+v is %d; it is in the segments %v", at, i, got, l)
			}
		}
	}
}

// TestEveryCallReturns has arguments of all kinds (P1).
func TestEveryCallReturns(t *testing.T) {
	defer func() {
		if r := recover(); r != nil {
			t.Errorf("P1: a call panics: %v", r)
		}
	}()
	for _, n := range someNumbers() {
		for _, other := range someNumbers() {
			i := api.Image{Entry: n, Pages: other, Segments: []api.Segment{{At: n, Data: "ab"}, {At: other}}}
			Check(i)
			Load(i)
			CPUs(i, n)
			Digest(i)
			Decode(Encode(i))
		}
		for _, pages := range []int{0, 1, 64, 65} {
			Of(api.Mem{Pages: make([]api.Page, pages)}, n, make([]api.Page, 3))
		}
	}
}
