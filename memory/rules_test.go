package memory

import (
	"math"
	"math/rand"
	"slices"
	"testing"

	"simulacrum/api"
)

// The functions of this file are the chapter's rules for a memory that is one list of bytes.

// flat returns the bytes of a memory.
func flat(m api.Mem) []byte {
	var out []byte
	for _, p := range m.Pages {
		for _, b := range p {
			out = append(out, b)
		}
	}
	return out
}

// folded returns the memory that has these bytes.
func folded(l []byte) api.Mem {
	var m api.Mem
	for k, b := range l {
		if k%128 == 0 {
			m.Pages = append(m.Pages, api.Page{})
		}
		m.Pages[k/128][k%128] = b
	}
	return m
}

// allIn reports whether the addresses at, at + 1, .., at + n - 1, and at itself for no bytes, are in the memory or, for no bytes, where it ends.
func allIn(size, at, n int) bool {
	if at < 0 || n < 0 || at > size || n > size {
		return false
	}
	for k := range n {
		if at+k >= size {
			return false
		}
	}
	return true
}

// thereRule reports whether a place is there.
func thereRule(memory, at, size int) bool {
	switch size {
	case 1:
		return allIn(memory, at, 1)
	case 4:
		return allIn(memory, at, 4) && at%4 == 0
	}
	return false
}

func loadRule(m []byte, at, size int) (uint32, bool) {
	if !thereRule(len(m), at, size) {
		return 0, false
	}
	sum, weight := 0, 1
	for k := range size {
		sum += int(m[at+k]) * weight
		weight *= 256
	}
	return uint32(sum), true
}

// storeRule changes m, or returns false.
func storeRule(m []byte, w api.Write) bool {
	if !thereRule(len(m), w.At, w.Size) {
		return false
	}
	rest := int(w.Value)
	for k := range w.Size {
		m[w.At+k] = byte(rest % 256)
		rest /= 256
	}
	return true
}

// applyRule changes m; if it returns false, what is in m is worthless.
func applyRule(m []byte, l []api.Write) bool {
	for _, w := range l {
		if !storeRule(m, w) {
			return false
		}
	}
	return true
}

func readRule(m []byte, at, n int) (string, bool) {
	if !allIn(len(m), at, n) {
		return "", false
	}
	var out []byte
	for k := range n {
		out = append(out, m[at+k])
	}
	return string(out), true
}

// writeRule changes m, or returns false.
func writeRule(m []byte, at int, data string) bool {
	if !allIn(len(m), at, len(data)) {
		return false
	}
	for k := range len(data) {
		m[at+k] = data[k]
	}
	return true
}

func diffRule(a, b api.Mem) []int {
	var out []int
	for n := 0; n < len(a.Pages) || n < len(b.Pages); n++ {
		same := n < len(a.Pages) && n < len(b.Pages)
		for k := 0; same && k < 128; k++ {
			same = a.Pages[n][k] == b.Pages[n][k]
		}
		if !same {
			out = append(out, n)
		}
	}
	return out
}

// filled returns a memory of arbitrary bytes, none of them 0.
func filled(pages int, seed int64) api.Mem {
	r := rand.New(rand.NewSource(seed))
	m := api.Mem{Pages: make([]api.Page, pages)}
	for n := range m.Pages {
		for k := range m.Pages[n] {
			m.Pages[n][k] = byte(1 + r.Intn(255))
		}
	}
	return m
}

// copied returns a memory with the same bytes.
func copied(m api.Mem) api.Mem {
	out := api.Mem{Pages: make([]api.Page, len(m.Pages))}
	copy(out.Pages, m.Pages)
	return out
}

// someAddresses returns addresses in and outside a memory: all of them near its ends and those of some pages, and huge ones.
func someAddresses(pages int) []int {
	out := []int{math.MinInt, math.MinInt + 1, math.MinInt + 4, math.MaxInt, math.MaxInt - 3, math.MaxInt - 127, 1 << 32, 1<<32 + 4, -1 << 32, 1 << 62, -1 << 62, 1 << 20}
	for n := 0; n <= pages; n++ {
		if n > 2 && n < pages-1 {
			continue
		}
		for k := -9; k <= 9; k++ {
			out = append(out, 128*n+k)
		}
		out = append(out, 128*n+60, 128*n+61, 128*n+64)
	}
	return out
}

// someSizes returns sizes of places, and numbers that are none.
func someSizes() []int {
	out := []int{math.MinInt, math.MinInt + 4, math.MaxInt, math.MaxInt - 3, 1 << 32, 1<<32 + 1, 1<<32 + 4, -1 << 32, 128}
	for n := -9; n <= 17; n++ {
		out = append(out, n)
	}
	return out
}

// check compares a memory that a call returned with what it should be, and makes sure that it is new: that the argument is as it was, and stays so when the result changes.
func check(t *testing.T, what string, before, m, got api.Mem, want []byte) {
	t.Helper()
	if wanted := folded(want); !slices.Equal(got.Pages, wanted.Pages) {
		t.Fatalf("%s: the memory differs at the pages %v", what, diffRule(got, wanted))
	}
	if !slices.Equal(m.Pages, before.Pages) {
		t.Fatalf("%s: the argument has changed at the pages %v", what, diffRule(m, before))
	}
	for n := range got.Pages {
		got.Pages[n][n%128]++
	}
	if !slices.Equal(m.Pages, before.Pages) {
		t.Fatalf("%s: the result shares the pages %v with the argument", what, diffRule(m, before))
	}
	for n := range got.Pages {
		got.Pages[n][n%128]--
	}
}
