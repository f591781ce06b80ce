package image

import (
	"bytes"
	"encoding/hex"
	"slices"
	"strings"
	"testing"

	"simulacrum/api"
	"simulacrum/hash"
	"simulacrum/wire"
)

// checkEncode checks P9.4 for the encoding and the digest of an image, right or not.
func checkEncode(t *testing.T, i api.Image) []byte {
	t.Helper()
	before := copied(i)
	want := encodeRule(i)
	got := Encode(i)
	if !bytes.Equal(got, want) {
		t.Fatalf("P9.4: Encode(%+v) = %v, want %v", i, got, want)
	}
	if d := hash.Of(90, string(want)); Digest(i) != d {
		t.Fatalf("P9.4: Digest(%+v) = %x, want %x", i, Digest(i), d)
	}
	clear(got[:cap(got)])
	if got := Encode(i); !bytes.Equal(got, want) || !same(i, before) {
		t.Fatalf("P9.4: Encode(%+v) is not new memory, or changes its argument", before)
	}
	return want
}

// checkDecode checks P9.4 for the decoding, and what P9.6 says of it.
func checkDecode(t *testing.T, b []byte) api.Errno {
	t.Helper()
	before := slices.Clone(b)
	want, wantE := decodeRule(b)
	got, e := Decode(b)
	if e != wantE || !same(got, want) || e != api.OK && !isZero(got) {
		t.Fatalf("P9.4: Decode(%v) = %+v, %d, want %+v, %d", b, got, e, want, wantE)
	}
	if !bytes.Equal(b, before) {
		t.Fatalf("P9.4: Decode changes %v", before)
	}
	if e == api.OK && !bytes.Equal(Encode(got), b) {
		t.Fatalf("P9.6: Encode of Decode(%v) = %v", b, Encode(got))
	}
	clear(b)
	if !same(got, want) {
		t.Fatalf("P9.4: Decode(%v) is not new memory", before)
	}
	copy(b, before)
	return e
}

// TestBytes has encodings that are written out.
func TestBytes(t *testing.T) {
	sector := strings.Repeat("s", 128)
	for _, x := range []struct {
		i    api.Image
		want string
	}{
		{api.Image{}, "\x06\x00\x00\x00\x00"},
		{small(), "\x0a\x08\x02\x00\x00\x08\x04\x04ab\x02c"},
		{api.Image{Entry: -1, Pages: 64, Segments: []api.Segment{{At: -2}}}, "\x08\x01\x80\x01\x00\x03\x02\x00"},
		{api.Image{Entry: 4, Pages: 1, Disk: []api.Page{api.Page([]byte(sector))}}, "\x06\x08\x02\x02\x02\x80\x02" + sector},
		{api.Image{Pages: 1, Segments: []api.Segment{{At: 3, Data: "x"}}, Disk: []api.Page{{}, api.Page([]byte(sector))}}, "\x08\x00\x02\x04\x06\x06\x02x\x80\x02" + strings.Repeat("\x00", 128) + "\x80\x02" + sector},
	} {
		if got := Encode(x.i); string(got) != x.want {
			t.Errorf("P9.4: Encode(%+v) = %q, want %q", x.i, got, x.want)
		}
		checkEncode(t, x.i)
		if got, e := Decode([]byte(x.want)); e != checkRule(x.i) || e == api.OK && !same(got, x.i) {
			t.Errorf("P9.4: Decode(%q) = %+v, %d", x.want, got, e)
		}
		checkDecode(t, []byte(x.want))
	}
	if got := hexOf(Digest(small())); got != "e6a8ca61" {
		t.Errorf("P9.4: the digest of the image of the examples begins with %s", got)
	}
}

// hexOf returns the first bytes of a digest.
func hexOf(d api.Digest) string { return hex.EncodeToString(d[:4]) }

// TestEncodeWrong has images that are not right, and are encoded all the same.
func TestEncodeWrong(t *testing.T) {
	for _, n := range someNumbers() {
		for _, i := range []api.Image{
			{Entry: n}, {Pages: n}, {Entry: n, Pages: 1}, {Pages: 1, Segments: []api.Segment{{At: n, Data: "abc"}}}, {Pages: 1, Segments: []api.Segment{{At: n}, {At: n}}}, {Pages: 2, Segments: []api.Segment{{At: n, Data: strings.Repeat("z", 200)}}},
		} {
			checkDecode(t, checkEncode(t, i))
		}
	}
	for n := 60; n < 70; n++ {
		checkDecode(t, checkEncode(t, api.Image{Pages: 1, Segments: spread(n)}))
		checkDecode(t, checkEncode(t, api.Image{Pages: 1, Disk: make([]api.Page, n)}))
		checkDecode(t, checkEncode(t, api.Image{Pages: 1, Segments: make([]api.Segment, n), Disk: make([]api.Page, 70-n)}))
	}
}

// joined returns what looks like the encoding of an image with these numbers and texts.
func joined(numbers []int, texts ...string) []byte {
	return append(wire.Ints(numbers), wire.Strings(texts)...)
}

// bytesCase is some bytes, and the error of Decode.
type bytesCase struct {
	b    []byte
	want api.Errno
}

func checkBytes(t *testing.T, l []bytesCase) {
	t.Helper()
	for k, x := range l {
		if got := checkDecode(t, x.b); got != x.want {
			t.Errorf("P9.4: bytes %d, %v, have the error %d, want %d", k, x.b, got, x.want)
		}
	}
}

// TestNoImage has numbers and texts that are those of no image, beside some that are.
func TestNoImage(t *testing.T) {
	sector := strings.Repeat("s", 128)
	checkBytes(t, []bytesCase{
		{joined(nil), api.ErrEncoding},
		{joined([]int{0}), api.ErrEncoding},
		{joined([]int{0, 1}), api.ErrEncoding},
		{joined([]int{0, 1}, "a"), api.ErrEncoding},
		{joined([]int{0, 1, 0}), api.OK},
		{joined([]int{0, 1, 0}, "a"), api.ErrEncoding},
		{joined([]int{0, 1, 0}, sector), api.ErrEncoding},
		{joined([]int{0, 1, 1}, sector), api.OK},
		{joined([]int{0, 1, 1}), api.ErrEncoding},
		{joined([]int{0, 1, 2}, sector), api.ErrEncoding},
		{joined([]int{0, 1, 1}, sector, sector), api.ErrEncoding},
		{joined([]int{0, 1, 1}, sector[:127]), api.ErrEncoding},
		{joined([]int{0, 1, 1}, sector+"s"), api.ErrEncoding},
		{joined([]int{0, 1, 1}, ""), api.ErrEncoding},
		{joined([]int{0, 1, 2}, sector, "s"), api.ErrEncoding},
		{joined([]int{0, 1, -1}), api.ErrEncoding},
		{joined([]int{0, 1, -1, 0}), api.ErrEncoding},
		{joined([]int{0, 1, -1, 0, 1}, "a"), api.ErrEncoding},
		{joined([]int{0, 1, 0, 0}), api.ErrEncoding},
		{joined([]int{0, 1, 0, 0}, "a"), api.OK},
		{joined([]int{0, 1, 0, 0}, "a", "b"), api.ErrEncoding},
		{joined([]int{0, 1, 1, 0}, "a"), api.ErrEncoding},
		{joined([]int{0, 1, 1, 0}, "a", sector), api.OK},
		{joined([]int{0, 1, 1, 0}, sector, "a"), api.ErrEncoding},
		{joined([]int{0, 1, most}), api.ErrEncoding},
		{joined([]int{0, 1, least, 0}, "a"), api.ErrEncoding},
		{joined([]int{0, 1, most, 0, 1}, "a", "b", sector), api.ErrEncoding},
	})
}

// TestFirstError has bytes with several errors, and encodings with something behind them.
func TestFirstError(t *testing.T) {
	good := Encode(small())
	checkBytes(t, []bytesCase{
		{nil, api.ErrTruncated},
		{[]byte{}, api.ErrTruncated},
		{[]byte{1}, api.ErrEncoding},
		{[]byte{128, 0}, api.ErrEncoding},
		{append(slices.Clone(good), 0), api.ErrEncoding},
		{append(slices.Clone(good), good...), api.ErrEncoding},
		{append(joined([]int{0, 65, 0}), 0), api.ErrEncoding},
		// The error of wire for the texts comes before what the numbers alone show.
		{wire.Ints(nil), api.ErrTruncated},
		{append(wire.Ints([]int{0, 1}), 2), api.ErrTruncated},
		{append(wire.Ints([]int{0, 1, -1}), 1), api.ErrEncoding},
		{append(wire.Ints([]int{0, 65, -1}), 128), api.ErrTruncated},
		// That there is no image comes before what Check finds.
		{joined([]int{1, 65, 0}, "a"), api.ErrEncoding},
		{joined([]int{1, 0, 1}, "a"), api.ErrEncoding},
		{joined([]int{1, 1, 0}), api.ErrRange},
		{joined([]int{0, 65, 0}), api.ErrRange},
		{joined([]int{128, 1, 0}), api.ErrRange},
		{joined([]int{0, 1, 0, 128}, "a"), api.ErrForm},
		{joined([]int{0, 1, 0, -1}, "a"), api.ErrForm},
		{joined([]int{0, 1, 0, 0}, ""), api.ErrForm},
		{joined([]int{0, 1, 0, 1, 0}, "a", "b"), api.ErrForm},
		{Encode(api.Image{Pages: 1, Segments: spread(65)}), api.ErrLimit},
		{Encode(api.Image{Pages: 1, Disk: make([]api.Page, 65)}), api.ErrLimit},
	})
}

// TestDecodeAny has arbitrary numbers and texts, and bytes that are nearly an encoding.
func TestDecodeAny(t *testing.T) {
	g := newMaker(94)
	found := map[api.Errno]int{}
	for range 3000 {
		numbers := []int{4 * g.Intn(40), 1 + g.Intn(2), g.Intn(4) - 1, 0, 3, 5, 7}[:g.Intn(8)]
		var texts []string
		for range g.Intn(5) {
			texts = append(texts, g.bytes([]int{0, 1, 2, 127, 128, 128, 129}[g.Intn(7)]))
		}
		found[checkDecode(t, joined(numbers, texts...))]++
		found[checkDecode(t, g.bent(Encode(g.image())))]++
	}
	for _, e := range []api.Errno{api.OK, api.ErrTruncated, api.ErrEncoding, api.ErrRange, api.ErrForm} {
		if found[e] < 20 {
			t.Errorf("P9.4: only %d bytes have the error %d", found[e], e)
		}
	}
}

// bent returns bytes with a change.
func (g maker) bent(b []byte) []byte {
	at := g.Intn(min(len(b), 30))
	switch g.Intn(4) {
	case 0:
		b[at] = byte(g.Intn(256))
	case 1:
		b[at] += byte(2*g.Intn(2)) - 1
	case 2:
		b = slices.Delete(b, at, at+1)
	case 3:
		b = slices.Insert(b, at, byte(g.Intn(256)))
	}
	return b
}

// TestDigests has images that differ in one thing each: so do their digests.
func TestDigests(t *testing.T) {
	g := newMaker(95)
	of := map[api.Digest]api.Image{}
	add := func(i api.Image) {
		d := Digest(i)
		if other, ok := of[d]; ok && !same(i, other) {
			t.Errorf("P9.4: %+v and %+v have one digest", i, other)
		}
		of[d] = i
	}
	for range 500 {
		i := g.image()
		checkEncode(t, i)
		add(i)
		add(g.changed(i))
	}
	split := api.Image{Pages: 1, Segments: []api.Segment{{At: 0, Data: "a"}, {At: 1, Data: "b"}}}
	add(split)
	add(api.Image{Pages: 1, Segments: []api.Segment{{At: 0, Data: "ab"}}})
	if len(of) < 900 {
		t.Errorf("P9.4: only %d digests", len(of))
	}
}
