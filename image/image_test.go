package image

import (
	"reflect"
	"slices"
	"strings"
	"testing"

	"simulacrum/api"
	"simulacrum/memory"
)

// small is the image of the chapter's examples.
func small() api.Image {
	return api.Image{Entry: 4, Pages: 1, Segments: []api.Segment{{At: 0, Data: "ab"}, {At: 4, Data: "c"}}}
}

// moved returns the image of the examples with its second segment at another place.
func moved(at int) api.Image {
	i := small()
	i.Segments[1].At = at
	return i
}

// TestExamples has the chapter's table.
func TestExamples(t *testing.T) {
	if api.MaxPages != 64 || api.PageSize != 128 || api.MaxSegments != 64 || api.MaxSectors != 64 || api.MaxCPUs != 4 || api.CoID != 8 || api.TagImage != 90 {
		t.Error("the numbers of the tests are those of other limits")
	}
	odd, far := small(), small()
	odd.Entry, far.Entry = 2, 128
	for k, x := range []struct {
		i    api.Image
		want api.Errno
	}{{small(), api.OK}, {odd, api.ErrRange}, {far, api.ErrRange}, {moved(1), api.ErrForm}, {moved(2), api.OK}, {moved(128), api.ErrForm}} {
		if got := Check(x.i); got != x.want {
			t.Errorf("P9.1: example %d: the error %d, want %d", k, got, x.want)
		}
	}
	m, e := Load(small())
	for at, want := range map[int]uint32{0: 0x6261, 4: 0x63, 8: 0, 124: 0} {
		if got, ok := memory.Load(m, at, 4); got != want || !ok || e != api.OK {
			t.Errorf("P9.2: the word at %d is %#x, with the error %d", at, got, e)
		}
	}
	l, e := CPUs(small(), 2)
	if e != api.OK || len(l) != 2 || l[0].PC != 4 || l[1].PC != 4 || l[0].Waiting || !l[1].Waiting || l[0].C[api.CoID] != 0 || l[1].C[api.CoID] != 1 {
		t.Errorf("P9.2: CPUs of 2: %+v, with the error %d", l, e)
	}
	i, e := Of(m, 4, nil)
	if want := []api.Segment{{At: 0, Data: "ab\x00\x00c"}}; e != api.OK || !slices.Equal(i.Segments, want) {
		t.Errorf("P9.3: the segments are %+v, with the error %d", i.Segments, e)
	}
	two := api.Mem{Pages: []api.Page{{0, 1, 0, 2}, {3}}}
	i, e = Of(two, 4, nil)
	if want := []api.Segment{{At: 1, Data: "\x01\x00\x02"}, {At: 128, Data: "\x03"}}; e != api.OK || !slices.Equal(i.Segments, want) {
		t.Errorf("P9.3: the segments are %+v, with the error %d", i.Segments, e)
	}
}

// checkCheck checks P9.1.
func checkCheck(t *testing.T, i api.Image) api.Errno {
	t.Helper()
	before := copied(i)
	want := checkRule(i)
	if got := Check(i); got != want {
		t.Fatalf("P9.1: Check(%+v) = %d, want %d", i, got, want)
	}
	if !same(i, before) {
		t.Fatalf("P9.1: Check changes %+v to %+v", before, i)
	}
	return want
}

func TestPagesAndEntries(t *testing.T) {
	for _, pages := range append(someNumbers(), 63, 65, 1<<57-1, 1<<58, -1<<57) {
		for _, entry := range append(someNumbers(), 0, 4, 124, 128, 8188, 8192, 60*128) {
			checkCheck(t, api.Image{Pages: pages, Entry: entry})
		}
	}
	for _, pages := range somePages() {
		for entry := -130; entry < 128*pages+300; entry++ {
			checkCheck(t, api.Image{Pages: pages, Entry: entry})
		}
	}
	if got := Check(api.Image{}); got != api.ErrRange {
		t.Errorf("P9.1: Check of the zero image: %d", got)
	}
}

// TestSegmentsOfOnePage has all pairs of short segments near the ends of a page.
func TestSegmentsOfOnePage(t *testing.T) {
	places := []int{-3, -2, -1, 0, 1, 2, 3, 4, 5, 60, 123, 124, 125, 126, 127, 128, 129, least, most}
	texts := []string{"", "a", "bc", "def", strings.Repeat("g", 128), strings.Repeat("h", 129)}
	right := 0
	for _, at := range places {
		for _, data := range texts {
			first := api.Segment{At: at, Data: data}
			checkCheck(t, api.Image{Pages: 1, Segments: []api.Segment{first}})
			for _, at := range places {
				for _, data := range texts {
					if checkCheck(t, api.Image{Pages: 1, Segments: []api.Segment{first, {At: at, Data: data}}}) == api.OK {
						right++
					}
				}
			}
		}
	}
	if right < 100 {
		t.Errorf("P9.1: only %d pairs are right", right)
	}
}

// TestHugeSegments has segments whose addresses and lengths have no sum that is an int.
func TestHugeSegments(t *testing.T) {
	for _, pages := range somePages() {
		for _, at := range someNumbers() {
			for _, n := range []int{0, 1, 2, 127, 128, 129, 256, 8191, 8192, 8193} {
				s := api.Segment{At: at, Data: strings.Repeat("x", n)}
				checkCheck(t, api.Image{Pages: pages, Segments: []api.Segment{s}})
				checkCheck(t, api.Image{Pages: pages, Segments: []api.Segment{{At: 0, Data: "y"}, s}})
				checkCheck(t, api.Image{Pages: pages, Segments: []api.Segment{s, {At: 128*pages - 1, Data: "y"}}})
			}
		}
	}
}

// spread returns n segments of one byte each.
func spread(n int) []api.Segment {
	var out []api.Segment
	for k := range n {
		out = append(out, api.Segment{At: k, Data: "s"})
	}
	return out
}

// TestLimits has the greatest numbers of segments and sectors, and several errors at once: the one that is named first counts.
func TestLimits(t *testing.T) {
	empty, outside := api.Segment{At: 100}, api.Segment{At: 128, Data: "z"}
	for k, x := range []struct {
		i    api.Image
		want api.Errno
	}{
		{api.Image{Pages: 1, Segments: spread(64), Disk: make([]api.Page, 64)}, api.OK},
		{api.Image{Pages: 1, Segments: spread(65)}, api.ErrLimit},
		{api.Image{Pages: 1, Disk: make([]api.Page, 65)}, api.ErrLimit},
		{api.Image{Pages: 1, Segments: make([]api.Segment, 65)}, api.ErrLimit},
		{api.Image{Pages: 1, Segments: []api.Segment{empty}, Disk: make([]api.Page, 65)}, api.ErrLimit},
		{api.Image{Pages: 1, Segments: []api.Segment{outside}, Disk: make([]api.Page, 64)}, api.ErrForm},
		{api.Image{Pages: 65, Segments: spread(65), Disk: make([]api.Page, 65)}, api.ErrRange},
		{api.Image{Pages: 1, Entry: 128, Segments: spread(65), Disk: make([]api.Page, 65)}, api.ErrRange},
		{api.Image{Pages: 1, Entry: 1, Segments: []api.Segment{outside}}, api.ErrRange},
		{api.Image{Pages: 0, Segments: []api.Segment{empty}}, api.ErrRange},
		{api.Image{Pages: 1, Segments: append(spread(63), outside)}, api.ErrForm},
	} {
		if got := Check(x.i); got != x.want || checkRule(x.i) != x.want {
			t.Errorf("P9.1: image %d has the error %d, want %d", k, got, x.want)
		}
		checkLoad(t, x.i)
		checkCPUs(t, x.i, 0)
		checkCPUs(t, x.i, 4)
	}
}

func TestCheckAny(t *testing.T) {
	g := newMaker(91)
	found := map[api.Errno]int{}
	for range 4000 {
		i := g.image()
		if checkCheck(t, i) != api.OK {
			t.Fatalf("the tests make %+v, which is not right", i)
		}
		found[checkCheck(t, g.changed(i))]++
	}
	for _, e := range []api.Errno{api.OK, api.ErrRange, api.ErrLimit, api.ErrForm} {
		if found[e] < 100 {
			t.Errorf("P9.1: only %d images have the error %d", found[e], e)
		}
	}
}

// checkLoad checks P9.2 for the memory, and P9.7.
func checkLoad(t *testing.T, i api.Image) {
	t.Helper()
	before := copied(i)
	m, e := Load(i)
	if want := checkRule(i); e != want {
		t.Fatalf("P9.2: Load(%+v) has the error %d, want %d", i, e, want)
	}
	if e != api.OK {
		if m.Pages != nil {
			t.Fatalf("P9.2: Load(%+v) has %d pages beside the error %d", i, len(m.Pages), e)
		}
		return
	}
	want := loadRule(i)
	if !slices.Equal(m.Pages, want.Pages) {
		t.Fatalf("P9.2: Load(%+v) has other bytes in the pages %v", i, memory.Diff(m, want))
	}
	for n := range m.Pages {
		m.Pages[n][n]++
	}
	if again, _ := Load(i); !slices.Equal(again.Pages, want.Pages) || !same(i, before) {
		t.Fatalf("P9.2: Load(%+v) is not new memory", before)
	}
}

func TestLoad(t *testing.T) {
	for _, pages := range somePages() {
		size := 128 * pages
		checkLoad(t, api.Image{Pages: pages})
		checkLoad(t, api.Image{Pages: pages, Segments: []api.Segment{{Data: newMaker(int64(pages)).bytes(size)}}})
		checkLoad(t, api.Image{Pages: pages, Segments: []api.Segment{{At: size - 1, Data: "z"}}})
		checkLoad(t, api.Image{Pages: pages, Segments: []api.Segment{{At: 0, Data: "a\x00"}, {At: 2, Data: "b"}, {At: size - 2, Data: "yz"}}})
		checkLoad(t, api.Image{Pages: pages, Segments: []api.Segment{{At: size - 1, Data: "yz"}}})
		checkLoad(t, api.Image{Pages: pages, Segments: []api.Segment{{At: 120, Data: "abcdefgh"}, {At: 128, Data: "i"}}})
	}
	g := newMaker(92)
	for range 2000 {
		i := g.image()
		checkLoad(t, i)
		checkLoad(t, g.changed(i))
	}
}

// checkCPUs checks P9.2 for the processors.
func checkCPUs(t *testing.T, i api.Image, n int) {
	t.Helper()
	want, wantE := cpusRule(i, n)
	got, e := CPUs(i, n)
	if e != wantE || !slices.Equal(got, want) || e != api.OK && got != nil {
		t.Fatalf("P9.2: CPUs(%+v, %d) = %+v, %d, want %+v, %d", i, n, got, e, want, wantE)
	}
	for k := range got {
		got[k].PC, got[k].C[k], got[k].Waiting = 1, 9, k == 0
	}
	if again, _ := CPUs(i, n); !slices.Equal(again, want) {
		t.Fatalf("P9.2: CPUs(%+v, %d) is not new memory", i, n)
	}
}

func TestCPUs(t *testing.T) {
	for _, n := range append(someNumbers(), 1, 2, 3, 4, 5, 16) {
		for _, entry := range []int{0, 4, 8188} {
			checkCPUs(t, api.Image{Pages: 64, Entry: entry}, n)
		}
		checkCPUs(t, small(), n)
		for _, wrong := range []api.Image{{}, {Pages: 1, Entry: 128}, {Pages: 1, Disk: make([]api.Page, 65)}, {Pages: 1, Segments: make([]api.Segment, 1)}} {
			checkCPUs(t, wrong, n)
		}
	}
	g := newMaker(93)
	for range 500 {
		checkCPUs(t, g.image(), 1+g.Intn(4))
	}
}

// checkOf checks P9.3.
func checkOf(t *testing.T, m api.Mem, entry int, disk []api.Page) api.Image {
	t.Helper()
	pages, sectors := slices.Clone(m.Pages), slices.Clone(disk)
	want, wantE := ofRule(m, entry, sectors)
	got, e := Of(m, entry, disk)
	if e != wantE || !same(got, want) || e != api.OK && !isZero(got) {
		t.Fatalf("P9.3: Of(%d pages, %d, %d sectors) = %+v, %d, want %+v, %d", len(m.Pages), entry, len(disk), got, e, want, wantE)
	}
	for k := range got.Disk {
		got.Disk[k][k]++
	}
	if !slices.Equal(m.Pages, pages) || !slices.Equal(disk, sectors) {
		t.Fatalf("P9.3: Of(%d pages, %d, %d sectors) is not new memory, or changes its arguments", len(m.Pages), entry, len(disk))
	}
	for k := range got.Disk {
		got.Disk[k][k]--
	}
	return got
}

// TestOfOnePage has all first and last bytes of a page, between others.
func TestOfOnePage(t *testing.T) {
	for first := range 128 {
		for last := first; last < 128; last++ {
			m := api.Mem{Pages: make([]api.Page, 3)}
			m.Pages[1][first], m.Pages[1][last] = 1, 255
			m.Pages[2][last-first] = 7
			checkOf(t, m, 0, nil)
		}
	}
	for value := range 256 {
		for _, at := range []int{0, 1, 64, 127} {
			m := api.Mem{Pages: make([]api.Page, 1)}
			m.Pages[0][at] = byte(value)
			checkOf(t, m, 0, nil)
		}
	}
}

func TestOf(t *testing.T) {
	g := newMaker(94)
	full := api.Mem{Pages: make([]api.Page, 64)}
	for n := range full.Pages {
		full.Pages[n] = api.Page([]byte(strings.Repeat(string(rune('0'+n)), 128)))
	}
	if i := checkOf(t, full, 8188, g.disk()); len(i.Segments) != 64 {
		t.Errorf("P9.3: %d segments of 64 pages", len(i.Segments))
	}
	for _, pages := range []int{0, 1, 2, 63, 64, 65, 66, 128, 256, 257, 320} {
		m := api.Mem{Pages: make([]api.Page, pages)}
		for _, entry := range append(someNumbers(), 0, 4, 124, 128*pages-4, 128*pages) {
			for _, sectors := range []int{0, 1, 63, 64, 65} {
				checkOf(t, m, entry, make([]api.Page, sectors))
			}
		}
	}
	checkOf(t, api.Mem{}, 0, nil)
	for range 2000 {
		m := g.memory()
		checkOf(t, m, 4*g.Intn(32*len(m.Pages)), g.disk())
	}
}

// TestOfSpareRoom has a memory and a disk that are the beginnings of longer lists: what is behind them is not theirs.
func TestOfSpareRoom(t *testing.T) {
	pages, sectors := []api.Page{{1}, {2}, {3}}, []api.Page{{4}, {5}}
	i, e := Of(api.Mem{Pages: pages[:2]}, 0, sectors[:1])
	if e != api.OK || len(i.Segments) != 2 || len(i.Disk) != 1 {
		t.Errorf("P9.3: Of = %+v, %d", i, e)
	}
	i.Disk = append(i.Disk, api.Page{9})
	if want := []api.Page{{4}, {5}}; !reflect.DeepEqual(sectors, want) {
		t.Error("P9.3: the disk of an image has spare room that is another one's")
	}
}

// TestSegmentsStop has somebody who wants some of the segments only.
func TestSegmentsStop(t *testing.T) {
	m := api.Mem{Pages: []api.Page{{1}, {}, {2}, {3}}}
	for most := 1; most <= 4; most++ {
		var got []int
		for s := range segments(m) {
			got = append(got, s.At)
			if len(got) == most {
				break
			}
		}
		if want := []int{0, 256, 384}[:min(most, 3)]; !slices.Equal(got, want) {
			t.Errorf("P9.3: the first %d segments are at %v", most, got)
		}
	}
}

func BenchmarkLoad(b *testing.B) {
	b.ReportAllocs()
	i := api.Image{Pages: 64, Segments: spread(64)}
	for range b.N {
		Load(i)
	}
}

func BenchmarkOf(b *testing.B) {
	b.ReportAllocs()
	m, _ := Load(newMaker(1).image())
	for range b.N {
		Of(m, 0, nil)
	}
}
