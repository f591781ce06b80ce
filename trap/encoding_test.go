package trap

import (
	"slices"
	"testing"

	"simulacrum/api"
	"simulacrum/wire"
)

// checkCopies checks P11.6 for one processor, and that an encoding is new memory.
func checkCopies(t *testing.T, c api.CPU) {
	t.Helper()
	b := checkEncode(t, c)
	if again, e := checkDecode(t, b); again != c || e != api.OK {
		t.Fatalf("P11.6: Decode(Encode(%+v)) = %+v, %d", c, again, e)
	}
	clear(b)
	if other := Encode(c); slices.Equal(b, other) {
		t.Fatalf("P11.6: Encode(%+v) is no new memory", c)
	}
}

func TestEncodings(t *testing.T) {
	g := newMaker(116)
	for _, c := range g.cpus(2000) {
		checkCopies(t, c)
	}
	for id := range 4 {
		checkCopies(t, Begin(id, 64))
	}
}

// TestPlaces has what stands at each place of an encoding.
func TestPlaces(t *testing.T) {
	c := api.CPU{PC: 1, User: true, Waiting: true, Count: 28}
	want := []int{1}
	for n := range 16 {
		c.R[n] = uint32(2 + n)
		want = append(want, 2+n)
	}
	for n := range 9 {
		c.C[n] = uint32(18 + n)
		want = append(want, 18+n)
	}
	want = append(want, 3, 28)
	got, used, e := wire.GetInts(Encode(c))
	if !slices.Equal(got, want) || used != len(Encode(c)) || e != api.OK {
		t.Errorf("P11.6: the numbers are %v, not %v", got, want)
	}
	for modes, c := range []api.CPU{{}, {User: true}, {Waiting: true}, {User: true, Waiting: true}, {Halted: true}, {User: true, Halted: true}} {
		if l, _, _ := wire.GetInts(Encode(c)); len(l) != 28 || l[26] != modes {
			t.Errorf("P11.6: the numbers are %v, and the modes %d", l, modes)
		}
	}
}

// TestWrongNumbers has, at each place of an encoding, the numbers at both ends of those that may stand there, and others.
func TestWrongNumbers(t *testing.T) {
	for _, c := range []api.CPU{corners()[0], corners()[47], {}, Begin(1, 64)} {
		for n, most := range mostRule() {
			for _, x := range []int{0, most, most + 1, -1, most + 2, most + 1<<32, 1 << 32, 1 << 33, -1 << 32, -1 << 63, 1<<63 - 1, 6, 7, 8, 16} {
				l := numbersRule(c)
				l[n] = x
				_, e := checkDecode(t, wire.Ints(l))
				if is := 0 <= x && x <= most; is != (e == api.OK) {
					t.Errorf("P11.6: %d at the place %d has the error %d", x, n, e)
				}
			}
		}
	}
}

// TestWrongBytes has encodings that are too short, too long, or another list's.
func TestWrongBytes(t *testing.T) {
	g := newMaker(117)
	for _, c := range append(g.cpus(20), Begin(3, 4)) {
		b := Encode(c)
		for n := range b {
			if _, e := checkDecode(t, b[:n]); e != api.ErrEncoding {
				t.Fatalf("P11.6: the first %d of %d bytes have the error %d", n, len(b), e)
			}
		}
		for _, more := range [][]byte{{0}, {1}, {255}, b} {
			if _, e := checkDecode(t, slices.Concat(b, more)); e != api.ErrEncoding {
				t.Fatalf("P11.6: %v behind an encoding has the error %d", more, e)
			}
		}
		l := numbersRule(c)
		for _, l := range [][]int{nil, {0}, l[:27], l[1:], append(l, 0), make([]int, 27), make([]int, 29)} {
			if _, e := checkDecode(t, wire.Ints(l)); e != api.ErrEncoding {
				t.Fatalf("P11.6: %d numbers have the error %d", len(l), e)
			}
		}
		for range 200 {
			other := slices.Clone(b)
			other[g.Intn(len(other))] ^= 1 << g.Intn(8)
			if c, e := checkDecode(t, other); e == api.OK && !slices.Equal(Encode(c), other) {
				t.Fatalf("P11.6: %v is decoded, but is no encoding", other)
			}
		}
	}
	// 0 in two bytes, the list's length in two bytes, and lists without end.
	long := append([]byte{56}, make([]byte, 28)...)
	checkDecode(t, long)
	for _, b := range [][]byte{nil, {}, {56}, {184, 0}, {57}, {255, 255, 255, 255, 255, 255, 255, 255, 255, 1}, slices.Insert(slices.Clone(long), 1, 128), append([]byte{184, 0}, long[1:]...)} {
		if _, e := checkDecode(t, b); e != api.ErrEncoding {
			t.Errorf("P11.6: %v has the error %d", b, e)
		}
	}
}

// TestWrongProcessors has the encodings of processors that are not valid.
func TestWrongProcessors(t *testing.T) {
	g := newMaker(118)
	for range 2000 {
		if c, e := checkDecode(t, wire.Ints(numbersRule(g.wrong()))); e != api.ErrEncoding {
			t.Fatalf("P11.6: %+v is decoded, with the error %d", c, e)
		}
	}
}
