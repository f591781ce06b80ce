package memory

import (
	"fmt"
	"math/rand"
	"reflect"
	"testing"

	"simulacrum/api"
)

// places returns all places of a memory.
func places(m api.Mem) []api.Write {
	var out []api.Write
	for at := range Size(m) {
		out = append(out, api.Write{At: at, Size: 1})
		if at%4 == 0 {
			out = append(out, api.Write{At: at, Size: 4})
		}
	}
	return out
}

// apart reports whether two places have no common byte.
func apart(a, b api.Write) bool { return a.At+a.Size <= b.At || b.At+b.Size <= a.At }

// lowest returns the bytes of a value that a place keeps.
func lowest(w api.Write) uint32 {
	if w.Size == 1 {
		return w.Value % 256
	}
	return w.Value
}

func stored(t *testing.T, m api.Mem, w api.Write) api.Mem {
	t.Helper()
	out, ok := Store(m, w)
	if !ok {
		t.Fatalf("P6.2: Store(%+v): false", w)
	}
	return out
}

func loaded(t *testing.T, m api.Mem, w api.Write) uint32 {
	t.Helper()
	n, ok := Load(m, w.At, w.Size)
	if !ok {
		t.Fatalf("P6.2: Load(%d, %d): false", w.At, w.Size)
	}
	return n
}

// TestStoredIsLoaded has P6.6: a store at each place of two pages, and loads from all of them.
func TestStoredIsLoaded(t *testing.T) {
	m := filled(2, 66)
	all := places(m)
	r := rand.New(rand.NewSource(66))
	for k, w := range all {
		w.Value = r.Uint32()
		after := stored(t, m, w)
		if got := loaded(t, after, w); got != lowest(w) {
			t.Fatalf("P6.6: after Store(%+v) %#x is loaded", w, got)
		}
		for _, o := range all {
			if apart(w, o) && loaded(t, after, o) != loaded(t, m, o) {
				t.Fatalf("P6.6: Store(%+v) changes the place of %d bytes at %d", w, o.Size, o.At)
			}
		}
		checkLast(t, m, after, w, r.Uint32())
		if k+1 < len(all) {
			checkExchange(t, m, w, all[k+1:min(k+4, len(all))])
		}
	}
}

// checkLast stores twice at one place: the last store counts.
func checkLast(t *testing.T, m, after api.Mem, w api.Write, value uint32) {
	w.Value = value
	twice, once := stored(t, after, w), stored(t, m, w)
	if !reflect.DeepEqual(twice, once) {
		t.Fatalf("P6.6: the first one of two stores at %d still counts", w.At)
	}
}

// checkExchange stores at two places without a common byte: one after the other, in both orders.
func checkExchange(t *testing.T, m api.Mem, w api.Write, others []api.Write) {
	for _, o := range others {
		if !apart(w, o) {
			continue
		}
		o.Value = 0x5a5a5a5a
		if a, b := stored(t, stored(t, m, w), o), stored(t, stored(t, m, o), w); !reflect.DeepEqual(a, b) {
			t.Fatalf("P6.6: the order of the stores %+v and %+v counts", w, o)
		}
	}
}

// TestWordIsItsBytes has P6.7 for each word.
func TestWordIsItsBytes(t *testing.T) {
	m := filled(3, 67)
	for at := 0; at < Size(m); at += 4 {
		word, ok := Load(m, at, 4)
		text, okText := Read(m, at, 4)
		if !ok || !okText {
			t.Fatalf("P6.7: the word at %d cannot be loaded, or read", at)
		}
		value, spelt := uint32(at)*0x9e3779b1, ""
		var single []api.Write
		for k := range 4 {
			part, _ := Load(m, at+k, 1)
			if part != word>>(8*k)&255 || byte(part) != text[k] {
				t.Errorf("P6.7: the byte %d of the word %#x at %d is %#x, and %q as a string", k, word, at, part, text)
			}
			single = append(single, api.Write{At: at + k, Size: 1, Value: value >> (8 * k)})
			spelt += string([]byte{byte(value >> (8 * k))})
		}
		byWord := stored(t, m, api.Write{At: at, Size: 4, Value: value})
		byBytes, _ := Apply(m, single)
		byString, _ := Write(m, at, spelt)
		if !reflect.DeepEqual(byWord, byBytes) || !reflect.DeepEqual(byWord, byString) {
			t.Errorf("P6.7: the word %#x stored at %d, its bytes, and the string differ", value, at)
		}
	}
}

// TestStringIsItsBytes has P6.7 for strings of any length.
func TestStringIsItsBytes(t *testing.T) {
	m := filled(3, 68)
	r := rand.New(rand.NewSource(68))
	for range 300 {
		at := r.Intn(Size(m))
		data := make([]byte, r.Intn(Size(m)-at+1))
		r.Read(data)
		one := m
		for k, b := range data {
			one = stored(t, one, api.Write{At: at + k, Size: 1, Value: uint32(b)})
		}
		whole, ok := Write(m, at, string(data))
		if !ok || !reflect.DeepEqual(whole, one) {
			t.Fatalf("P6.7: Write of %d bytes at %d is not that of its bytes", len(data), at)
		}
		if got, ok := Read(whole, at, len(data)); got != string(data) || !ok {
			t.Fatalf("P6.7: Read of %d bytes at %d is not what was written", len(data), at)
		}
		n := r.Intn(len(data) + 1)
		first, _ := Write(m, at, string(data[:n]))
		if both, _ := Write(first, at+n, string(data[n:])); !reflect.DeepEqual(both, whole) {
			t.Fatalf("P6.7: Write of %d bytes at %d is not that of two parts", len(data), at)
		}
	}
}

// checkDiff checks P6.5, and P6.8 for two memories.
func checkDiff(t *testing.T, a, b api.Mem) {
	t.Helper()
	beforeA, beforeB := copied(a), copied(b)
	want := diffRule(a, b)
	for _, got := range [][]int{Diff(a, b), Diff(b, a)} {
		if fmt.Sprint(got) != fmt.Sprint(want) {
			t.Fatalf("P6.5: Diff of %d and %d pages = %v, want %v", len(a.Pages), len(b.Pages), got, want)
		}
	}
	if (len(want) == 0) != reflect.DeepEqual(beforeA, beforeB) {
		t.Fatalf("P6.8: Diff of %d and %d pages is %v", len(a.Pages), len(b.Pages), want)
	}
	if !reflect.DeepEqual(a, beforeA) || !reflect.DeepEqual(b, beforeB) {
		t.Fatal("P6.5: Diff changes an argument")
	}
}

func TestDiff(t *testing.T) {
	m := filled(64, 65)
	for _, n := range []int{1, 2, 3, 63, 64} {
		short := api.Mem{Pages: m.Pages[:n]}
		checkDiff(t, m, short)
		other := filled(n, 1)
		checkDiff(t, m, other)
		checkDiff(t, short, other)
		checkDiff(t, short, copied(short))
	}
	for _, n := range []int{0, 1, 17, 62, 63} {
		for k := range 128 {
			other := copied(m)
			other.Pages[n][k] ^= 1 << (k % 8)
			checkDiff(t, m, other)
			if got := Diff(m, other); !reflect.DeepEqual(got, []int{n}) {
				t.Fatalf("P6.5: another byte %d in the page %d: %v", k, n, got)
			}
		}
	}
	zeros, _ := New(2)
	longer, _ := New(4)
	if got := Diff(zeros, longer); !reflect.DeepEqual(got, []int{2, 3}) {
		t.Errorf("P6.5: Diff of 2 and 4 pages of zeros: %v", got)
	}
}

// TestDiffOfSome changes any set of pages.
func TestDiffOfSome(t *testing.T) {
	r := rand.New(rand.NewSource(85))
	for range 200 {
		a := filled(1+r.Intn(12), r.Int63())
		b := copied(a)
		for range r.Intn(6) {
			b.Pages[r.Intn(len(b.Pages))][r.Intn(128)] ^= 4
		}
		b.Pages = b.Pages[:1+r.Intn(len(b.Pages))]
		checkDiff(t, a, b)
	}
}

// TestDiffAfterStore has P6.8 for each place of two pages.
func TestDiffAfterStore(t *testing.T) {
	m := filled(2, 86)
	for _, w := range places(m) {
		if got := Diff(stored(t, m, w), m); !reflect.DeepEqual(got, []int{w.At / 128}) {
			t.Errorf("P6.8: Diff after a store of zero at %d: %v", w.At, got)
		}
		w.Value, _ = Load(m, w.At, w.Size)
		if got := Diff(stored(t, m, w), m); len(got) > 0 {
			t.Errorf("P6.8: Diff after a store of what was there at %d: %v", w.At, got)
		}
	}
}
