package clock

import (
	"slices"
	"testing"

	"simulacrum/api"
	"simulacrum/wire"
)

func checkEncode(t *testing.T, c api.Clock) []byte {
	t.Helper()
	got := Encode(c)
	if want := wire.Ints(numbersRule(c)); !slices.Equal(got, want) {
		t.Fatalf("P14.6: Encode(%+v) = %v, not %v", c, got, want)
	}
	return got
}

func checkDecode(t *testing.T, b []byte) (api.Clock, api.Errno) {
	t.Helper()
	before := slices.Clone(b)
	got, e := Decode(b)
	if want, wantE := decodeRule(b); got != want || e != wantE {
		t.Fatalf("P14.6: Decode(%v) = %+v, %d, not %+v, %d", b, got, e, want, wantE)
	}
	if !slices.Equal(b, before) {
		t.Fatalf("P14.6: Decode has changed its argument %v", before)
	}
	if e == api.OK && !slices.Equal(Encode(got), b) {
		t.Fatalf("P14.9: %v is decoded, but is no encoding", b)
	}
	return got, e
}

// checkCopies checks P14.9 for one clock, and that an encoding is new memory.
func checkCopies(t *testing.T, c api.Clock) {
	t.Helper()
	b := checkEncode(t, c)
	if again, e := checkDecode(t, b); again != c || e != api.OK {
		t.Fatalf("P14.9: Decode(Encode(%+v)) = %+v, %d", c, again, e)
	}
	clear(b)
	if other := Encode(c); slices.Equal(b, other) {
		t.Fatalf("P14.6: Encode(%+v) is no new memory", c)
	}
}

func TestEncodings(t *testing.T) {
	g := newMaker(147)
	for _, c := range g.clocks(3000) {
		checkCopies(t, c)
	}
}

// TestPlaces has what stands at each place of an encoding.
func TestPlaces(t *testing.T) {
	c := api.Clock{Last: 20, Offered: [4]bool{true, false, true, true}, Reading: [4]int{11, 0, 13, 14}, Alarm: [4]int{21, 22, 0, 24}}
	want := []byte{26, 40, 2, 22, 42, 0, 0, 44, 2, 26, 0, 2, 28, 48}
	if b := Encode(c); !slices.Equal(b, want) {
		t.Errorf("P14.6: Encode(%+v) = %v, not %v", c, b, want)
	}
	if got, e := Decode(want); got != c || e != api.OK {
		t.Errorf("P14.6: Decode(%v) = %+v, %d", want, got, e)
	}
	empty := append([]byte{26}, make([]byte, 13)...)
	if got, e := Decode(empty); got != (api.Clock{}) || e != api.OK {
		t.Errorf("P14.6: Decode(%v) = %+v, %d", empty, got, e)
	}
}

// TestWrongNumbers has, at each place of an encoding, numbers that may stand there, and others: also such as are right modulo 2^32.
func TestWrongNumbers(t *testing.T) {
	g := newMaker(148)
	for _, c := range g.clocks(50) {
		for n := range 13 {
			for _, x := range []int{-1 << 63, -1 << 40, -1 << 32, -1<<32 + 1, -2, -1, 0, 1, 2, 3, c.Last, c.Last + 1, 255, 256, 257, 1<<31 - 1, 1 << 31, 1 << 32, 1<<32 + 1, 1<<40 - 1, 1 << 40, 1<<40 + 1, 1<<63 - 1} {
				l := numbersRule(c)
				l[n] = x
				if _, e := checkDecode(t, wire.Ints(l)); e == api.OK && (x < 0 || x > 1<<40 || x > 1 && n%3 == 1) {
					t.Errorf("P14.6: %d is decoded at the place %d", x, n)
				}
			}
		}
	}
}

// TestWrongBytes has encodings that are too short, too long, or another list's.
func TestWrongBytes(t *testing.T) {
	g := newMaker(149)
	for _, c := range g.clocks(30) {
		b := Encode(c)
		for n := range b {
			if _, e := checkDecode(t, b[:n]); e != api.ErrEncoding {
				t.Fatalf("P14.6: the first %d of %d bytes have the error %d", n, len(b), e)
			}
		}
		for _, more := range [][]byte{{0}, {1}, {255}, b} {
			if _, e := checkDecode(t, slices.Concat(b, more)); e != api.ErrEncoding {
				t.Fatalf("P14.6: %v behind an encoding has the error %d", more, e)
			}
		}
		l := numbersRule(c)
		for _, l := range [][]int{nil, {0}, {1}, l[:1], l[:10], l[:12], l[1:], append(l, 0), append(l, 0, 0, 0), make([]int, 12), make([]int, 14)} {
			if _, e := checkDecode(t, wire.Ints(l)); e != api.ErrEncoding {
				t.Fatalf("P14.6: %d numbers have the error %d", len(l), e)
			}
		}
		for range 300 {
			other := slices.Clone(b)
			other[g.Intn(len(other))] ^= 1 << g.Intn(8)
			checkDecode(t, other)
		}
	}
	// Numbers and lengths in more bytes than they need, and lists without end.
	short := Encode(api.Clock{})
	for _, b := range [][]byte{nil, {}, {26}, {154, 0}, {25}, {255, 255, 255, 255, 255, 255, 255, 255, 255, 1}, slices.Insert(slices.Clone(short), 2, 128), slices.Replace(slices.Clone(short), 1, 2, 128, 0), slices.Replace(slices.Clone(short), 0, 1, 154, 0)} {
		if _, e := checkDecode(t, b); e != api.ErrEncoding {
			t.Errorf("P14.6: %v has the error %d", b, e)
		}
	}
}

// TestWrongClocks has the encodings of clocks that are not valid.
func TestWrongClocks(t *testing.T) {
	g := newMaker(150)
	for range 3000 {
		if c, e := checkDecode(t, wire.Ints(numbersRule(g.wrong()))); e != api.ErrEncoding {
			t.Fatalf("P14.6: %+v is decoded, with the error %d", c, e)
		}
	}
}
