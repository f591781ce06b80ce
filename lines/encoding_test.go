package lines

import (
	"slices"
	"testing"

	"simulacrum/api"
	"simulacrum/wire"
)

func checkEncode(t *testing.T, c api.Control) []byte {
	t.Helper()
	got := Encode(c)
	if want := wire.Ints(numbersRule(c)); !slices.Equal(got, want) {
		t.Fatalf("P13.5: Encode(%+v) = %v, not %v", c, got, want)
	}
	return got
}

func checkDecode(t *testing.T, b []byte) (api.Control, api.Errno) {
	t.Helper()
	before := slices.Clone(b)
	got, e := Decode(b)
	if want, wantE := decodeRule(b); got != want || e != wantE {
		t.Fatalf("P13.5: Decode(%v) = %+v, %d, not %+v, %d", b, got, e, want, wantE)
	}
	if !slices.Equal(b, before) {
		t.Fatalf("P13.5: Decode has changed its argument %v", before)
	}
	return got, e
}

// checkCopies checks P13.8 for one control, and that an encoding is new memory.
func checkCopies(t *testing.T, c api.Control) {
	t.Helper()
	b := checkEncode(t, c)
	if again, e := checkDecode(t, b); again != c || e != api.OK {
		t.Fatalf("P13.8: Decode(Encode(%+v)) = %+v, %d", c, again, e)
	}
	clear(b)
	if other := Encode(c); slices.Equal(b, other) {
		t.Fatalf("P13.5: Encode(%+v) is no new memory", c)
	}
}

func TestEncodings(t *testing.T) {
	g := newMaker(135)
	for _, c := range g.controls(3000) {
		checkCopies(t, c)
	}
}

// TestPlaces has what stands at each place of an encoding.
func TestPlaces(t *testing.T) {
	c := api.Control{CPUs: 4, Raised: [4]uint32{5, 6, 7, 8}, Mask: [4]uint32{9, 10, 11, 12}, Route: [5]int{0, 1, 2, 3, 0}}
	want := []byte{28, 8, 10, 12, 14, 16, 18, 20, 22, 24, 0, 2, 4, 6, 0}
	if b := Encode(c); !slices.Equal(b, want) {
		t.Errorf("P13.5: Encode(%+v) = %v, not %v", c, b, want)
	}
	if got, e := Decode(want); got != c || e != api.OK {
		t.Errorf("P13.5: Decode(%v) = %+v, %d", want, got, e)
	}
	empty := append([]byte{28, 2}, make([]byte, 13)...)
	if got, e := Decode(empty); got != (api.Control{CPUs: 1}) || e != api.OK {
		t.Errorf("P13.5: Decode(%v) = %+v, %d", empty, got, e)
	}
}

// TestWrongNumbers has, at each place of an encoding, numbers that may stand there, and others: also such as are right modulo 2^32.
func TestWrongNumbers(t *testing.T) {
	g := newMaker(136)
	for _, c := range g.controls(50) {
		for n := range 14 {
			for _, x := range []int{-1 << 63, -1 << 32, -31, -2, -1, 0, 1, 2, 3, 4, 5, 16, 30, 31, 32, 33, 63, 64, 1 << 31, 1<<32 - 1, 1 << 32, 1<<32 + 1, 1<<32 + 4, 1<<33 + 31, 1<<63 - 1} {
				l := numbersRule(c)
				l[n] = x
				if _, e := checkDecode(t, wire.Ints(l)); e == api.OK && (x < 0 || x > 31) {
					t.Errorf("P13.5: %d is decoded at the place %d", x, n)
				}
			}
		}
	}
}

// TestWrongBytes has encodings that are too short, too long, or another list's.
func TestWrongBytes(t *testing.T) {
	g := newMaker(137)
	for _, c := range g.controls(30) {
		b := Encode(c)
		for n := range b {
			if _, e := checkDecode(t, b[:n]); e != api.ErrEncoding {
				t.Fatalf("P13.5: the first %d of %d bytes have the error %d", n, len(b), e)
			}
		}
		for _, more := range [][]byte{{0}, {1}, {255}, b} {
			if _, e := checkDecode(t, slices.Concat(b, more)); e != api.ErrEncoding {
				t.Fatalf("P13.5: %v behind an encoding has the error %d", more, e)
			}
		}
		l := numbersRule(c)
		for _, l := range [][]int{nil, {0}, {1}, l[:1], l[:13], l[1:], append(l, 0), make([]int, 13), make([]int, 15)} {
			if _, e := checkDecode(t, wire.Ints(l)); e != api.ErrEncoding {
				t.Fatalf("P13.5: %d numbers have the error %d", len(l), e)
			}
		}
		for range 300 {
			other := slices.Clone(b)
			other[g.Intn(len(other))] ^= 1 << g.Intn(8)
			if c, e := checkDecode(t, other); e == api.OK && !slices.Equal(Encode(c), other) {
				t.Fatalf("P13.5: %v is decoded, but is no encoding", other)
			}
		}
	}
	// Numbers and lengths in more bytes than they need, and lists without end.
	short := Encode(api.Control{CPUs: 1})
	for _, b := range [][]byte{nil, {}, {28}, {156, 0}, {29}, {255, 255, 255, 255, 255, 255, 255, 255, 255, 1}, slices.Insert(slices.Clone(short), 2, 128), slices.Replace(slices.Clone(short), 1, 2, 130, 0), slices.Replace(slices.Clone(short), 0, 1, 156, 0)} {
		if _, e := checkDecode(t, b); e != api.ErrEncoding {
			t.Errorf("P13.5: %v has the error %d", b, e)
		}
	}
}

// TestWrongControls has the encodings of controls that are not valid.
func TestWrongControls(t *testing.T) {
	g := newMaker(138)
	for range 3000 {
		if c, e := checkDecode(t, wire.Ints(numbersRule(g.wrong()))); e != api.ErrEncoding {
			t.Fatalf("P13.5: %+v is decoded, with the error %d", c, e)
		}
	}
}
