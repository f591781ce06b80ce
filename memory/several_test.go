package memory

import (
	"math"
	"math/rand"
	"testing"

	"simulacrum/api"
)

// checkApply checks P6.3.
func checkApply(t *testing.T, before, m api.Mem, l []api.Write) {
	t.Helper()
	want := flat(before)
	wantOk := applyRule(want, l)
	if !wantOk {
		want = flat(before)
	}
	kept := append([]api.Write(nil), l...)
	got, ok := Apply(m, l)
	if ok != wantOk {
		t.Fatalf("P6.3: Apply(%+v) to %d pages: %v", l, len(m.Pages), ok)
	}
	check(t, "P6.3: Apply", before, m, got, want)
	for k, w := range l {
		if w != kept[k] {
			t.Fatalf("P6.3: Apply changes the list %+v", kept)
		}
	}
}

func TestApply(t *testing.T) {
	m := filled(2, 1)
	before := copied(m)
	word, part := api.Write{At: 128, Size: 4, Value: 0x11223344}, api.Write{At: 129, Size: 1, Value: 0x1ff}
	for _, l := range [][]api.Write{
		nil,
		{},
		{word},
		{word, part},
		{part, word}, // the word is the last one
		{word, word, part, part},
		{part, {At: 129, Size: 1, Value: 7}},
		{word, {At: 130, Size: 4}, part},
		{word, part, {At: 256, Size: 1}},
		{{At: -1, Size: 1}, word},
		{{At: 0, Size: 2}},
		{{}},
		{word, {At: math.MinInt, Size: 4}},
		{word, {At: math.MaxInt - 3, Size: 4}},
	} {
		checkApply(t, before, m, l)
	}
}

// TestApplyAny has lists of arbitrary stores, some of them with one that cannot be done.
func TestApplyAny(t *testing.T) {
	r := rand.New(rand.NewSource(63))
	done, failed := 0, 0
	for range 1500 {
		pages := 1 + r.Intn(3)
		m := filled(pages, r.Int63())
		before := copied(m)
		l := make([]api.Write, r.Intn(9))
		for k := range l {
			l[k] = anyWrite(r, pages)
		}
		if applyRule(flat(m), l) {
			done++
		} else {
			failed++
		}
		checkApply(t, before, m, l)
	}
	if done < 100 || failed < 100 {
		t.Errorf("P6.3: %d lists can be done, and %d cannot", done, failed)
	}
}

// anyWrite returns a store that can be done most of the time; it is near other stores.
func anyWrite(r *rand.Rand, pages int) api.Write {
	w := api.Write{At: 128*r.Intn(pages) + r.Intn(16), Size: 1, Value: r.Uint32()}
	if r.Intn(2) == 0 {
		w.At, w.Size = w.At&^3, 4
	}
	switch r.Intn(20) {
	case 0:
		w.At++
	case 1:
		w.At += 128 * (pages - 1)
	case 2:
		w.Size = r.Intn(6)
	}
	return w
}

// TestManyStores stores each word of the largest memory.
func TestManyStores(t *testing.T) {
	m := filled(64, 1)
	before := copied(m)
	var l []api.Write
	for at := 0; at < 64*128; at += 4 {
		l = append(l, api.Write{At: at, Size: 4, Value: uint32(at) * 0x01234567})
	}
	checkApply(t, before, m, l)
	l = append(l, api.Write{At: 64 * 128, Size: 4})
	checkApply(t, before, m, l)
}

func TestRead(t *testing.T) {
	for _, pages := range []int{1, 2, 3, 64} {
		m := filled(pages, int64(pages))
		before, bytes := copied(m), flat(m)
		size := 128 * pages
		counts := append(someSizes(), 127, 129, 130, 255, 256, 257, size-1, size, size+1)
		for _, at := range append(someAddresses(pages), size/2) {
			for _, n := range append(counts, size-at, size-at+1, size-at-1) {
				want, wantOk := readRule(bytes, at, n)
				if got, ok := Read(m, at, n); got != want || ok != wantOk {
					t.Fatalf("P6.4: Read(%d, %d) of %d pages = %q, %v, want %q, %v", at, n, pages, got, ok, want, wantOk)
				}
			}
		}
		if len(Diff(m, before)) > 0 {
			t.Error("P6.4: Read changes its argument")
		}
	}
}

// checkWrite checks P6.4.
func checkWrite(t *testing.T, before, m api.Mem, at int, data string) {
	t.Helper()
	want := flat(before)
	wantOk := writeRule(want, at, data)
	got, ok := Write(m, at, data)
	if ok != wantOk {
		t.Fatalf("P6.4: Write of %d bytes at %d into %d pages: %v", len(data), at, len(m.Pages), ok)
	}
	check(t, "P6.4: Write", before, m, got, want)
}

func TestWrite(t *testing.T) {
	data := make([]byte, 129*128)
	rand.New(rand.NewSource(64)).Read(data)
	for _, pages := range []int{1, 2, 3, 64} {
		m := filled(pages, int64(pages))
		before := copied(m)
		size := 128 * pages
		for _, at := range someAddresses(pages) {
			for _, n := range []int{0, 1, 2, 3, 5, 127, 128, 129, 256, size - at - 1, size - at, size - at + 1, size, size + 1} {
				if n >= 0 && n <= len(data) {
					checkWrite(t, before, m, at, string(data[:n]))
				}
			}
		}
	}
}

// TestNoBytes has the addresses at which no bytes are in the memory: those up to its end.
func TestNoBytes(t *testing.T) {
	m := filled(2, 1)
	for at, want := range map[int]bool{0: true, 1: true, 127: true, 128: true, 255: true, 256: true, 257: false, -1: false, math.MinInt: false, math.MaxInt: false} {
		if got, ok := Read(m, at, 0); got != "" || ok != want {
			t.Errorf("P6.4: Read(m, %d, 0) = %q, %v", at, got, ok)
		}
		if got, ok := Write(m, at, ""); len(Diff(got, m)) > 0 || ok != want {
			t.Errorf("P6.4: Write(m, %d, no bytes): %v", at, ok)
		}
	}
	for _, n := range []int{-1, -256, math.MinInt} {
		if got, ok := Read(m, 256, n); got != "" || ok {
			t.Errorf("P6.4: Read(m, 256, %d) = %q, %v", n, got, ok)
		}
	}
}
