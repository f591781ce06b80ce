package memory

import (
	"math"
	"reflect"
	"testing"

	"simulacrum/api"
)

func TestNew(t *testing.T) {
	for _, pages := range someSizes() {
		checkNew(t, pages)
	}
	for pages := -130; pages <= 330; pages++ {
		checkNew(t, pages)
	}
	if api.MaxPages != 64 || api.PageSize != 128 {
		t.Error("the numbers of the tests are those of other limits")
	}
}

// checkNew checks P6.1.
func checkNew(t *testing.T, pages int) {
	m, e := New(pages)
	if pages < 1 || pages > 64 {
		if m.Pages != nil || e != api.ErrArg {
			t.Errorf("P6.1: New(%d) has %d pages and the error %d, want ErrArg", pages, len(m.Pages), e)
		}
		return
	}
	if e != api.OK || !reflect.DeepEqual(m, folded(make([]byte, 128*pages))) {
		t.Errorf("P6.1: New(%d) has %d pages and the error %d, or not only zeros", pages, len(m.Pages), e)
	}
	if !Valid(m) || Size(m) != 128*pages {
		t.Errorf("P6.1: Valid and Size of New(%d) are %v and %d", pages, Valid(m), Size(m))
	}
}

// TestNewIsNew has two memories of one size: one of them changes, the other one and those made later do not.
func TestNewIsNew(t *testing.T) {
	a, _ := New(2)
	b, _ := New(2)
	a.Pages[0][0], a.Pages[1][127] = 1, 1
	c, _ := New(2)
	for _, m := range []api.Mem{b, c} {
		if !reflect.DeepEqual(m, folded(make([]byte, 256))) {
			t.Error("P6.1: New(2) shares pages with another memory")
		}
	}
}

func TestValid(t *testing.T) {
	for _, pages := range []int{0, 1, 2, 33, 63, 64, 65, 66, 128, 256, 257, 320} {
		m := filled(pages, 1)
		if got, want := Valid(m), pages >= 1 && pages <= 64; got != want {
			t.Errorf("P6.1: Valid of a memory of %d pages is %v", pages, got)
		}
		if got := Size(m); pages <= 64 && got != 128*pages {
			t.Errorf("P6.1: Size of a memory of %d pages is %d", pages, got)
		}
	}
	if Valid(api.Mem{}) || Valid(api.Mem{Pages: []api.Page{}}) {
		t.Error("P6.1: a memory without pages is valid")
	}
}

// TestExamples has the chapter's table.
func TestExamples(t *testing.T) {
	zeros, _ := New(2)
	m, ok := Store(zeros, api.Write{At: 128, Size: 4, Value: 0x11223344})
	if !ok {
		t.Fatal("P6.2: no store at 128")
	}
	for _, x := range []struct {
		at, size int
		want     uint32
		ok       bool
	}{{128, 4, 0x11223344, true}, {128, 1, 0x44, true}, {131, 1, 0x11, true}, {130, 4, 0, false}, {256, 1, 0, false}, {0, 2, 0, false}, {124, 4, 0, true}, {252, 4, 0, true}, {256, 4, 0, false}, {-4, 4, 0, false}, {-1, 1, 0, false}} {
		if got, ok := Load(m, x.at, x.size); got != x.want || ok != x.ok {
			t.Errorf("P6.2: Load(m, %d, %d) = %#x, %v, want %#x, %v", x.at, x.size, got, ok, x.want, x.ok)
		}
	}
	if got, ok := Read(m, 127, 3); got != "\x00\x44\x33" || !ok {
		t.Errorf("P6.4: Read(m, 127, 3) = %q, %v", got, ok)
	}
	if got := Diff(m, zeros); !reflect.DeepEqual(got, []int{1}) {
		t.Errorf("P6.5: Diff with the memory of zeros: %v", got)
	}
	m, ok = Store(m, api.Write{At: 129, Size: 1, Value: 0x1ff})
	if got, _ := Load(m, 128, 4); got != 0x1122ff44 || !ok {
		t.Errorf("P6.2: after the store of a byte: %#x", got)
	}
}

func TestLoad(t *testing.T) {
	for _, pages := range []int{1, 2, 3, 64} {
		m := filled(pages, int64(pages))
		before, bytes := copied(m), flat(m)
		for _, at := range someAddresses(pages) {
			for _, size := range someSizes() {
				want, wantOk := loadRule(bytes, at, size)
				if got, ok := Load(m, at, size); got != want || ok != wantOk {
					t.Fatalf("P6.2: Load(%d, %d) of %d pages = %#x, %v, want %#x, %v", at, size, pages, got, ok, want, wantOk)
				}
			}
		}
		if !reflect.DeepEqual(m, before) {
			t.Errorf("P6.2: Load changes its argument")
		}
	}
}

func TestStore(t *testing.T) {
	for _, pages := range []int{1, 2, 64} {
		m := filled(pages, int64(pages))
		before := copied(m)
		for _, at := range someAddresses(pages) {
			for _, size := range someSizes() {
				checkStore(t, before, m, api.Write{At: at, Size: size, Value: 0x89abcdef})
			}
		}
	}
	m := filled(2, 1)
	before := copied(m)
	for _, value := range []uint32{0, 1, 255, 256, 0x1ff, 0xffff0000, 0x01000000, 1 << 31, math.MaxUint32} {
		for _, at := range []int{0, 1, 4, 124, 127, 128, 252, 255, 256} {
			checkStore(t, before, m, api.Write{At: at, Size: 1, Value: value})
			checkStore(t, before, m, api.Write{At: at, Size: 4, Value: value})
		}
	}
}

// checkStore checks P6.2.
func checkStore(t *testing.T, before, m api.Mem, w api.Write) {
	want := flat(before)
	wantOk := storeRule(want, w)
	got, ok := Store(m, w)
	if ok != wantOk {
		t.Fatalf("P6.2: Store(%+v) in %d pages: %v", w, len(m.Pages), ok)
	}
	check(t, "P6.2: Store", before, m, got, want)
}

// TestSpareRoom has memories that are the beginning of a longer list of pages: what is behind them is not theirs.
func TestSpareRoom(t *testing.T) {
	whole := filled(4, 1)
	before := copied(whole)
	m := api.Mem{Pages: whole.Pages[:2]}
	if _, ok := Load(m, 256, 4); ok || Size(m) != 256 {
		t.Error("P6.2: a place behind the memory is there")
	}
	for _, at := range []int{0, 252, 256} {
		Store(m, api.Write{At: at, Size: 4})
		Apply(m, []api.Write{{At: at, Size: 4}})
		Write(m, at, "abcd")
	}
	got, ok := Write(m, 254, "abc")
	if ok || len(got.Pages) != 2 || !reflect.DeepEqual(whole, before) {
		t.Error("P6.4: bytes are written behind the memory")
	}
}

// TestEveryCallReturns has the memories for which the chapter specifies no result too (P1).
func TestEveryCallReturns(t *testing.T) {
	defer func() {
		if r := recover(); r != nil {
			t.Errorf("P1: a call panics: %v", r)
		}
	}()
	for _, pages := range []int{0, 1, 64, 65} {
		m := api.Mem{Pages: make([]api.Page, pages)}
		Diff(m, api.Mem{})
		Diff(api.Mem{}, m)
		for _, at := range someAddresses(pages) {
			for _, n := range someSizes() {
				New(at)
				Load(m, at, n)
				Read(m, at, n)
				Store(m, api.Write{At: at, Size: n, Value: 7})
				Apply(m, []api.Write{{At: at, Size: n}})
			}
			Write(m, at, "")
			Write(m, at, "abc")
		}
	}
}

func BenchmarkLoad(b *testing.B) {
	b.ReportAllocs()
	m := filled(64, 1)
	for n := range b.N {
		Load(m, n%2048*4, 4)
	}
}

func BenchmarkStore(b *testing.B) {
	b.ReportAllocs()
	m := filled(64, 1)
	for n := range b.N {
		Store(m, api.Write{At: n % 2048 * 4, Size: 4, Value: 1})
	}
}

func BenchmarkDiff(b *testing.B) {
	b.ReportAllocs()
	l, m := filled(64, 1), filled(64, 1)
	for range b.N {
		Diff(l, m)
	}
}
