package console

import (
	"slices"
	"strings"
	"testing"

	"simulacrum/api"
	"simulacrum/wire"
)

func checkEncode(t *testing.T, c api.Console) []byte {
	t.Helper()
	got := Encode(c)
	if want := encodeRule(c); !slices.Equal(got, want) {
		t.Fatalf("P15.4: Encode(%#v) = %v, not %v", c, got, want)
	}
	return got
}

func checkDecode(t *testing.T, b []byte) (api.Console, api.Errno) {
	t.Helper()
	before := slices.Clone(b)
	got, e := Decode(b)
	if want, wantE := decodeRule(b); got != want || e != wantE {
		t.Fatalf("P15.4: Decode(%v) = %#v, %d, not %#v, %d", b, got, e, want, wantE)
	}
	if !slices.Equal(b, before) {
		t.Fatalf("P15.4: Decode has changed its argument %v", before)
	}
	if e == api.OK && !slices.Equal(Encode(got), b) {
		t.Fatalf("P15.7: %v is decoded, but is no encoding", b)
	}
	return got, e
}

// checkCopies checks P15.7 for one valid console, and that neither an encoding nor what is decoded is anybody else's memory.
func checkCopies(t *testing.T, c api.Console) {
	t.Helper()
	b := checkEncode(t, c)
	again, e := checkDecode(t, b)
	for at := range b {
		b[at]++
	}
	if again != c || e != api.OK {
		t.Fatalf("P15.7: Decode(Encode(%#v)) = %#v, %d", c, again, e)
	}
	if other := Encode(c); slices.Equal(b, other) {
		t.Fatalf("P15.4: Encode(%#v) is no new memory", c)
	}
}

func TestEncodings(t *testing.T) {
	g := newMaker(154)
	for _, c := range g.consoles(3000) {
		checkCopies(t, c)
	}
}

// TestPlaces has encodings found by hand.
func TestPlaces(t *testing.T) {
	b64 := strings.Repeat("b", 64)
	for _, x := range []struct {
		c    api.Console
		want []byte
	}{
		{api.Console{}, []byte{0, 0}},
		{api.Console{In: "ab", Lost: 5}, []byte{4, 97, 98, 10}},
		{api.Console{In: "\xff\x00é", Lost: 64}, []byte{8, 255, 0, 0xc3, 0xa9, 128, 1}},
		{api.Console{In: b64, Lost: 1 << 40}, append([]byte{128, 1}, b64+"\x80\x80\x80\x80\x80\x40"...)},
	} {
		if b := Encode(x.c); !slices.Equal(b, x.want) {
			t.Errorf("P15.4: Encode(%#v) = %v, not %v", x.c, b, x.want)
		}
		if got, e := Decode(x.want); got != x.c || e != api.OK {
			t.Errorf("P15.4: Decode(%v) = %#v, %d", x.want, got, e)
		}
	}
}

// TestEncodeAll has consoles that are not valid: they have encodings, which are not decoded.
func TestEncodeAll(t *testing.T) {
	g := newMaker(155)
	for range 3000 {
		c := g.wrong()
		if got, e := checkDecode(t, checkEncode(t, c)); got != (api.Console{}) || e != api.ErrForm {
			t.Fatalf("P15.4: the encoding of %#v is decoded as %#v, with the error %d", c, got, e)
		}
	}
	if b := Encode(api.Console{In: "a", Lost: -1}); !slices.Equal(b, []byte{2, 97, 1}) {
		t.Errorf("P15.4: the encoding of a console that is not valid is %v", b)
	}
}

// TestWrongBytes has bytes that are no encodings, and the first error of each.
func TestWrongBytes(t *testing.T) {
	long := strings.Repeat("a", 65)
	endless := []byte(strings.Repeat("\xff", 10))
	for _, x := range []struct {
		b    []byte
		want api.Errno
	}{
		{nil, api.ErrTruncated},
		{[]byte{}, api.ErrTruncated},
		{[]byte{0}, api.ErrTruncated},
		{[]byte{2}, api.ErrTruncated},
		{[]byte{2, 97}, api.ErrTruncated},
		{[]byte{4, 97, 10}, api.ErrTruncated},
		{[]byte{2, 97, 128}, api.ErrTruncated},
		{[]byte{128}, api.ErrTruncated},
		{[]byte{254, 255, 255, 255, 255, 255, 255, 255, 255, 1}, api.ErrTruncated},
		{[]byte{1, 0}, api.ErrEncoding},
		{[]byte{1}, api.ErrEncoding},
		{[]byte{128, 0, 0}, api.ErrEncoding},
		{[]byte{0, 128, 0}, api.ErrEncoding},
		{[]byte{130, 0, 97, 0}, api.ErrEncoding},
		{endless, api.ErrEncoding},
		{append([]byte{0}, endless...), api.ErrEncoding},
		{[]byte{0, 0, 0}, api.ErrEncoding},
		{[]byte{2, 97, 0, 0}, api.ErrEncoding},
		{[]byte{2, 97, 10, 128}, api.ErrEncoding},
		{[]byte{0, 1}, api.ErrForm},
		{[]byte{2, 97, 1}, api.ErrForm},
		{wire.Bytes(long), api.ErrTruncated},
		{append(wire.Bytes(long), 0), api.ErrForm},
		{append(wire.Bytes(long), 0, 0), api.ErrEncoding},
		{append(wire.Bytes(long), 128), api.ErrTruncated},
		{append(wire.Bytes(long), 128, 0), api.ErrEncoding},
		{[]byte{0, 1, 0}, api.ErrEncoding},
		{append([]byte{0}, wire.Int(1<<40+1)...), api.ErrForm},
		{append([]byte{0}, wire.Int(1<<63-1)...), api.ErrForm},
		{append([]byte{0}, wire.Int(-1<<63)...), api.ErrForm},
		{append(append([]byte{0}, wire.Int(1<<40+1)...), 7), api.ErrEncoding},
		{append([]byte{0}, wire.Int(1<<40)...), api.OK},
		{append(wire.Bytes(long[:64]), 0), api.OK},
	} {
		if got, e := checkDecode(t, x.b); e != x.want || e != api.OK && got != (api.Console{}) {
			t.Errorf("P15.4: Decode(%v) = %#v, %d, not %d", x.b, got, e, x.want)
		}
	}
}

// TestChangedBytes has encodings that are cut, continued and changed.
func TestChangedBytes(t *testing.T) {
	g := newMaker(156)
	for _, c := range g.consoles(30) {
		b := Encode(c)
		for n := range b {
			if _, e := checkDecode(t, b[:n]); e != api.ErrTruncated {
				t.Fatalf("P15.4: the first %d of %d bytes have the error %d", n, len(b), e)
			}
		}
		for _, more := range [][]byte{{0}, {1}, {128}, {255}, b} {
			if _, e := checkDecode(t, slices.Concat(b, more)); e != api.ErrEncoding {
				t.Fatalf("P15.4: %v behind an encoding has the error %d", more, e)
			}
		}
		for range 200 {
			other := slices.Clone(b)
			other[g.Intn(len(other))] ^= 1 << g.Intn(8)
			checkDecode(t, other)
			other[0] = byte(g.Intn(6))
			checkDecode(t, other)
		}
	}
}
