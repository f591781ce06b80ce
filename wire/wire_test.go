package wire

import (
	"bytes"
	"math"
	"math/big"
	"math/rand"
	"runtime"
	"slices"
	"strings"
	"testing"

	"simulacrum/api"
)

// full returns n times the byte 255, and some further bytes.
func full(n int, more ...byte) []byte { return append(bytes.Repeat([]byte{255}, n), more...) }

// digestOf returns a digest that begins with some bytes.
func digestOf(b ...byte) (d api.Digest) {
	copy(d[:], b)
	return d
}

// someInts returns all integers near zero, and those near the powers of two and of their negatives, in ascending order.
func someInts() []int {
	var l []int
	for n := -20000; n <= 20000; n++ {
		l = append(l, n)
	}
	for k := 14; k < 64; k++ {
		for d := -3; d <= 3; d++ {
			n := int(uint64(1)<<k) + d // wraps around at both ends
			l = append(l, n, -n)
		}
	}
	slices.Sort(l)
	return slices.Compact(l)
}

// ruleInt is P1.1, in integers of unlimited size.
func ruleInt(n int) []byte {
	z := new(big.Int).Mul(big.NewInt(int64(n)), big.NewInt(2))
	if n < 0 {
		z.Neg(z).Sub(z, big.NewInt(1))
	}
	digit, base := new(big.Int), big.NewInt(128)
	var b []byte
	for {
		z.QuoRem(z, base, digit)
		if z.Sign() == 0 {
			return append(b, byte(digit.Int64()))
		}
		b = append(b, byte(digit.Int64()+128))
	}
}

// ruleGetInt is P1.2, in integers of unlimited size.
func ruleGetInt(b []byte) (int, int, api.Errno) {
	first := b[:min(len(b), 10)]
	end := slices.IndexFunc(first, func(c byte) bool { return c < 128 })
	switch {
	case end < 0 && len(b) >= 10:
		return 0, 0, api.ErrEncoding
	case end < 0:
		return 0, 0, api.ErrTruncated
	case end == 9 && b[end] > 1, end > 0 && b[end] == 0:
		return 0, 0, api.ErrEncoding
	}
	z := new(big.Int)
	for i := end; i >= 0; i-- {
		z.Mul(z, big.NewInt(128)).Add(z, big.NewInt(int64(b[i]%128)))
	}
	odd := z.Bit(0) == 1
	z.Rsh(z, 1)
	if odd {
		z.Neg(z).Sub(z, big.NewInt(1))
	}
	return int(z.Int64()), end + 1, api.OK
}

func TestInt(t *testing.T) {
	for _, x := range []struct {
		n    int
		want []byte
	}{
		{0, []byte{0}}, {1, []byte{2}}, {63, []byte{126}}, {64, []byte{128, 1}}, {300, []byte{216, 4}}, {8191, []byte{254, 127}}, {8192, []byte{128, 128, 1}},
		{-1, []byte{1}}, {-2, []byte{3}}, {-64, []byte{127}}, {-65, []byte{129, 1}}, {-8192, []byte{255, 127}}, {-8193, []byte{129, 128, 1}},
		{math.MaxInt, append([]byte{254}, full(8, 1)...)}, {math.MinInt, full(9, 1)},
	} {
		if b := Int(x.n); !bytes.Equal(b, x.want) {
			t.Errorf("P1.1: Int(%d) = %v, want %v", x.n, b, x.want)
		}
	}
	for _, n := range someInts() {
		if b, want := Int(n), ruleInt(n); !bytes.Equal(b, want) {
			t.Fatalf("P1.1: Int(%d) = %v, want %v", n, b, want)
		}
	}
}

func TestGetInt(t *testing.T) {
	for _, x := range []struct {
		b    []byte
		n    int
		used int
		e    api.Errno
	}{
		{[]byte{0}, 0, 1, api.OK},
		{[]byte{0, 0}, 0, 1, api.OK},
		{[]byte{129, 1, 255}, -65, 2, api.OK},
		{[]byte{128, 128, 1}, 8192, 3, api.OK},
		{full(9, 1), math.MinInt, 10, api.OK},
		{full(9, 1, 255), math.MinInt, 10, api.OK},
		{append([]byte{254}, full(8, 1)...), math.MaxInt, 10, api.OK},
		{full(8, 127), math.MinInt / 2, 9, api.OK},
		{nil, 0, 0, api.ErrTruncated},
		{[]byte{}, 0, 0, api.ErrTruncated},
		{[]byte{128}, 0, 0, api.ErrTruncated},
		{full(9), 0, 0, api.ErrTruncated},
		{full(10), 0, 0, api.ErrEncoding},
		{full(10, 0), 0, 0, api.ErrEncoding},
		{full(9, 128), 0, 0, api.ErrEncoding},
		{full(9, 2), 0, 0, api.ErrEncoding},
		{full(9, 127), 0, 0, api.ErrEncoding},
		{full(9, 0), 0, 0, api.ErrEncoding},
		{full(8, 0), 0, 0, api.ErrEncoding},
		{[]byte{128, 0}, 0, 0, api.ErrEncoding},
		{[]byte{128, 0, 1}, 0, 0, api.ErrEncoding},
		{[]byte{255, 128, 0}, 0, 0, api.ErrEncoding},
	} {
		if n, used, e := GetInt(x.b); n != x.n || used != x.used || e != x.e {
			t.Errorf("P1.2: GetInt(%v) = %d, %d, %d, want %d, %d, %d", x.b, n, used, e, x.n, x.used, x.e)
		}
	}
}

// shortSequences yields all sequences of at most three bytes that matter, and those with up to ten bytes of 128 or 255 before them.
func shortSequences(yield func([]byte)) {
	all := []byte{0, 1, 2, 3, 4, 63, 64, 126, 127, 128, 129, 130, 254, 255}
	for n := range 11 {
		for _, c := range []byte{128, 255} {
			head := bytes.Repeat([]byte{c}, n)
			yield(head)
			for _, x := range all {
				yield(append(head[:n:n], x))
				for _, y := range all {
					yield(append(head[:n:n], x, y))
					for _, z := range all {
						yield(append(head[:n:n], x, y, z))
					}
				}
			}
		}
	}
}

func TestGetIntOnShortSequences(t *testing.T) {
	shortSequences(func(b []byte) {
		n, used, e := GetInt(b)
		if m, length, f := ruleGetInt(b); n != m || used != length || e != f {
			t.Fatalf("P1.2: GetInt(%v) = %d, %d, %d, want %d, %d, %d", b, n, used, e, m, length, f)
		}
	})
}

func TestBytes(t *testing.T) {
	for _, n := range []int{0, 1, 63, 64, 127, 128, 8191, 8192, 100000} {
		s := strings.Repeat("\x00\xffa", n)[:n]
		if b, want := Bytes(s), append(ruleInt(n), s...); !bytes.Equal(b, want) {
			t.Errorf("P1.3: Bytes of %d bytes: %d bytes, want %d", n, len(b), len(want))
		}
	}
	if b := Bytes("ab"); !bytes.Equal(b, []byte{4, 97, 98}) {
		t.Errorf("P1.3: Bytes(ab) = %v", b)
	}
}

func TestGetBytes(t *testing.T) {
	for _, x := range []struct {
		b    []byte
		s    string
		used int
		e    api.Errno
	}{
		{[]byte{0}, "", 1, api.OK},
		{[]byte{0, 128}, "", 1, api.OK},
		{[]byte{4, 97, 98}, "ab", 3, api.OK},
		{[]byte{4, 97, 98, 99}, "ab", 3, api.OK},
		{[]byte{4, 0, 255}, "\x00\xff", 3, api.OK},
		{append([]byte{128, 1}, strings.Repeat("x", 64)...), strings.Repeat("x", 64), 66, api.OK},
		{append([]byte{128, 1}, strings.Repeat("x", 63)...), "", 0, api.ErrTruncated},
		{nil, "", 0, api.ErrTruncated},
		{[]byte{128}, "", 0, api.ErrTruncated},
		{[]byte{2}, "", 0, api.ErrTruncated},
		{[]byte{4, 97}, "", 0, api.ErrTruncated},
		{append([]byte{254}, full(8, 1, 1)...), "", 0, api.ErrTruncated},
		{[]byte{1}, "", 0, api.ErrEncoding},
		{[]byte{3, 97}, "", 0, api.ErrEncoding},
		{full(9, 1), "", 0, api.ErrEncoding},
		{[]byte{128, 0, 97}, "", 0, api.ErrEncoding},
		{full(9, 2), "", 0, api.ErrEncoding},
		{full(10), "", 0, api.ErrEncoding},
	} {
		if s, used, e := GetBytes(x.b); s != x.s || used != x.used || e != x.e {
			t.Errorf("P1.3: GetBytes(%v) = %q, %d, %d, want %q, %d, %d", x.b, s, used, e, x.s, x.used, x.e)
		}
	}
}

func TestListEncodings(t *testing.T) {
	d, f := digestOf(1, 2, 3), digestOf(255, 0, 128)
	for _, x := range []struct{ got, want []byte }{
		{Ints(nil), []byte{0}},
		{Ints([]int{}), []byte{0}},
		{Ints([]int{1, -1}), []byte{4, 2, 1}},
		{Ints([]int{64, 0, -65}), []byte{6, 128, 1, 0, 129, 1}},
		{Ints(make([]int, 64)), append([]byte{128, 1}, make([]byte, 64)...)},
		{Strings(nil), []byte{0}},
		{Strings([]string{"", "a"}), []byte{4, 0, 2, 97}},
		{Strings([]string{"a", "\xff\x00", ""}), []byte{6, 2, 97, 4, 255, 0, 0}},
		{Digests(nil), []byte{0}},
		{Digests([]api.Digest{d}), append([]byte{2}, d[:]...)},
		{Digests([]api.Digest{d, f}), slices.Concat([]byte{4}, d[:], f[:])},
	} {
		if !bytes.Equal(x.got, x.want) {
			t.Errorf("P1.4: %v, want %v", x.got, x.want)
		}
	}
}

func TestListDecodings(t *testing.T) {
	d, f := digestOf(1, 2, 3), digestOf(255, 0, 128)
	if l, n, e := GetInts([]byte{4, 2, 1, 9}); !slices.Equal(l, []int{1, -1}) || n != 3 || e != api.OK {
		t.Error("P1.5: GetInts:", l, n, e)
	}
	if l, n, e := GetInts([]byte{0, 128}); len(l) != 0 || n != 1 || e != api.OK {
		t.Error("P1.5: GetInts:", l, n, e)
	}
	if l, n, e := GetStrings([]byte{4, 0, 2, 97, 9}); !slices.Equal(l, []string{"", "a"}) || n != 4 || e != api.OK {
		t.Error("P1.5: GetStrings:", l, n, e)
	}
	if l, n, e := GetStrings([]byte{0, 128}); len(l) != 0 || n != 1 || e != api.OK {
		t.Error("P1.5: GetStrings:", l, n, e)
	}
	if l, n, e := GetDigests(slices.Concat([]byte{4}, d[:], f[:], []byte{7})); !slices.Equal(l, []api.Digest{d, f}) || n != 33 || e != api.OK {
		t.Error("P1.5: GetDigests:", l, n, e)
	}
	if l, n, e := GetDigests([]byte{0, 128}); len(l) != 0 || n != 1 || e != api.OK {
		t.Error("P1.5: GetDigests:", l, n, e)
	}
}

func TestListErrors(t *testing.T) {
	huge := append([]byte{254}, full(8, 1, 0)...)            // MaxInt elements
	wraps := append(Int(1<<60), make([]byte, 20)...)         // 16 times as many bytes are 0 modulo 2^64
	wrapsToOne := append(Int(1<<60+1), make([]byte, 20)...)  // .. or 16
	sixteen := append([]byte{4}, make([]byte, 31)...)        // two digests but one byte
	tooShort := append([]byte{6}, 2, 97)                     // fewer bytes than elements: the elements are not looked at
	badAfterShort := append([]byte{8}, 128, 0, 1)            // .. not even those that cannot be decoded
	lastBad := append([]byte{4}, 0, 255, 255, 255, 0)        // the second element is none
	secondEnds := append([]byte{4}, 2, 97, 130)              // the second element ends too early
	firstBad := append([]byte{6}, 255, 0, 1, 255)            // the first error counts, not the last one
	tenBytes := slices.Concat([]byte{2}, full(10))           // an element with no end
	lengthBad, lengthNegative := full(9, 2), []byte{1, 0, 0} // the length
	for i, x := range []struct {
		b                    []byte
		ints, texts, digests api.Errno
	}{
		{nil, api.ErrTruncated, api.ErrTruncated, api.ErrTruncated},
		{[]byte{128}, api.ErrTruncated, api.ErrTruncated, api.ErrTruncated},
		{[]byte{128, 0}, api.ErrEncoding, api.ErrEncoding, api.ErrEncoding},
		{lengthBad, api.ErrEncoding, api.ErrEncoding, api.ErrEncoding},
		{lengthNegative, api.ErrEncoding, api.ErrEncoding, api.ErrEncoding},
		{full(9, 1), api.ErrEncoding, api.ErrEncoding, api.ErrEncoding},
		{huge, api.ErrTruncated, api.ErrTruncated, api.ErrTruncated},
		{wraps, api.ErrTruncated, api.ErrTruncated, api.ErrTruncated},
		{wrapsToOne, api.ErrTruncated, api.ErrTruncated, api.ErrTruncated},
		{sixteen, api.OK, api.OK, api.ErrTruncated},
		{append(sixteen, 0), api.OK, api.OK, api.OK},
		{tooShort, api.ErrTruncated, api.ErrTruncated, api.ErrTruncated},
		{badAfterShort, api.ErrTruncated, api.ErrTruncated, api.ErrTruncated},
		{lastBad, api.ErrEncoding, api.ErrEncoding, api.ErrTruncated},
		{secondEnds, api.OK, api.ErrTruncated, api.ErrTruncated},
		{firstBad, api.ErrEncoding, api.ErrEncoding, api.ErrTruncated},
		{tenBytes, api.ErrEncoding, api.ErrEncoding, api.ErrTruncated},
		{[]byte{2, 1}, api.OK, api.ErrEncoding, api.ErrTruncated},
		{[]byte{2, 128, 0}, api.ErrEncoding, api.ErrEncoding, api.ErrTruncated},
		{[]byte{4, 2, 128}, api.ErrTruncated, api.ErrTruncated, api.ErrTruncated},
		{[]byte{4, 6, 0, 0}, api.OK, api.ErrTruncated, api.ErrTruncated},
	} {
		ints, used, e := GetInts(x.b)
		wantListError(t, i, x.ints, e, used, len(ints))
		texts, used, e := GetStrings(x.b)
		wantListError(t, i, x.texts, e, used, len(texts))
		digests, used, e := GetDigests(x.b)
		wantListError(t, i, x.digests, e, used, len(digests))
	}
}

func wantListError(t *testing.T, i int, want, e api.Errno, used, elements int) {
	t.Helper()
	if e != want || e != api.OK && (used != 0 || elements != 0) {
		t.Errorf("P1.5: %d: error %d, want %d, with %d bytes and %d elements", i, e, want, used, elements)
	}
}

// TestListsOnShortSequences compares the decoding of lists with that of their parts, one after the other.
func TestListsOnShortSequences(t *testing.T) {
	check := func(b []byte) {
		ints, used, e := GetInts(b)
		want, length, f := ruleList(b, GetInt)
		if !slices.Equal(ints, want) || used != length || e != f {
			t.Fatalf("P1.5: GetInts(%v) = %v, %d, %d, want %v, %d, %d", b, ints, used, e, want, length, f)
		}
		texts, used, e := GetStrings(b)
		wanted, length, f := ruleList(b, GetBytes)
		if !slices.Equal(texts, wanted) || used != length || e != f {
			t.Fatalf("P1.5: GetStrings(%v) = %q, %d, %d, want %q, %d, %d", b, texts, used, e, wanted, length, f)
		}
	}
	shortSequences(func(b []byte) {
		check(b)
		for _, n := range []int{1, 2, 3} {
			check(append(Int(n), b...))
		}
	})
}

// ruleList is P1.5 for elements of at least one byte.
func ruleList[T any](b []byte, get func([]byte) (T, int, api.Errno)) ([]T, int, api.Errno) {
	n, used, e := ruleGetInt(b)
	switch {
	case e != api.OK:
		return nil, 0, e
	case n < 0:
		return nil, 0, api.ErrEncoding
	case n > len(b)-used:
		return nil, 0, api.ErrTruncated
	}
	var l []T
	for len(l) < n {
		x, k, e := get(b[used:])
		if e != api.OK {
			return nil, 0, e
		}
		l, used = append(l, x), used+k
	}
	return l, used, api.OK
}

// wantBack checks the consequences P1.6 for the encoding b of x: it is decoded whatever follows it, and no proper prefix of it is.
func wantBack[T any](t *testing.T, x T, b []byte, get func([]byte) (T, int, api.Errno), same func(T, T) bool) {
	t.Helper()
	for _, tail := range [][]byte{nil, {0}, {1}, {128}, {255, 255}, full(20), b} {
		if y, used, e := get(slices.Concat(b, tail)); !same(x, y) || used != len(b) || e != api.OK {
			t.Fatalf("P1.6: %#v comes back as %#v, %d, %d, followed by %v", x, y, used, e, tail)
		}
	}
	var zero T
	for n := range b {
		if y, used, e := get(b[:n]); !same(zero, y) || used != 0 || e != api.ErrTruncated {
			t.Fatalf("P1.6: %d bytes of the encoding of %#v yield %#v, %d, %d", n, x, y, used, e)
		}
	}
}

func equal[T comparable](a, b T) bool { return a == b }

func equalLists[T comparable](a, b []T) bool { return slices.Equal(a, b) }

func TestRoundTrips(t *testing.T) {
	for _, n := range someInts() {
		wantBack(t, n, Int(n), GetInt, equal)
	}
	r := rand.New(rand.NewSource(1))
	for n := range 70 {
		ints, texts, digests := make([]int, n), make([]string, n), make([]api.Digest, n)
		for i := range n {
			ints[i] = int(r.Uint64()) >> r.Intn(64)
			text := make([]byte, r.Intn(70))
			r.Read(text)
			texts[i] = string(text)
			r.Read(digests[i][:])
		}
		wantBack(t, ints, Ints(ints), GetInts, equalLists)
		wantBack(t, texts, Strings(texts), GetStrings, equalLists)
		wantBack(t, digests, Digests(digests), GetDigests, equalLists)
		wantBack(t, strings.Join(texts, ""), Bytes(strings.Join(texts, "")), GetBytes, equal)
	}
}

// wantSameBytes checks that what is decoded from b, if anything, is encoded as the bytes consumed, and is zero otherwise.
func wantSameBytes[T any](t *testing.T, b []byte, get func([]byte) (T, int, api.Errno), put func(T) []byte, same func(T, T) bool) {
	t.Helper()
	var zero T
	x, used, e := get(b)
	switch {
	case e != api.OK:
		if used != 0 || !same(x, zero) || e != api.ErrTruncated && e != api.ErrEncoding {
			t.Fatalf("P1.2, P1.3, P1.5: %v is decoded as %#v, %d, %d", b, x, used, e)
		}
	case used < 1 || used > len(b) || !bytes.Equal(put(x), b[:used]):
		t.Fatalf("P1.6: %v is decoded as %#v from %d bytes, whose encoding is %v", b, x, used, put(x))
	}
}

func wantCanonical(t *testing.T, b []byte) {
	t.Helper()
	wantSameBytes(t, b, GetInt, Int, equal)
	wantSameBytes(t, b, GetBytes, Bytes, equal)
	wantSameBytes(t, b, GetInts, Ints, equalLists)
	wantSameBytes(t, b, GetStrings, Strings, equalLists)
	wantSameBytes(t, b, GetDigests, Digests, equalLists)
}

func TestConsumedBytesAreTheEncoding(t *testing.T) {
	for i := range 1 << 16 {
		wantCanonical(t, []byte{byte(i), byte(i >> 8)})
	}
	shortSequences(func(b []byte) { wantCanonical(t, b) })
	r := rand.New(rand.NewSource(2))
	for range 20000 {
		b := make([]byte, r.Intn(60))
		r.Read(b)
		for i := range b {
			b[i] >>= r.Intn(8) // small numbers, so that lists are short enough
		}
		wantCanonical(t, b)
	}
}

// TestEveryCallReturns calls each function with the arguments at the ends of its type.
func TestEveryCallReturns(t *testing.T) {
	defer func() {
		if r := recover(); r != nil {
			t.Errorf("P1: a call panics: %v", r)
		}
	}()
	for _, n := range []int{math.MinInt, math.MinInt + 1, -1, 0, 1, math.MaxInt - 1, math.MaxInt} {
		Int(n)
		Ints([]int{n})
		for _, rest := range []int{0, 1, 15, 16, 17, 1000} {
			wantCanonical(t, append(Int(n), make([]byte, rest)...))
			wantCanonical(t, append(Int(n), full(rest)...))
		}
	}
	wantCanonical(t, nil)
	Bytes("")
	Ints(nil)
	Strings(nil)
	Digests(nil)
	Bytes(strings.Repeat("\xff", 1<<20))
	Strings(make([]string, 1<<20))
	Digests(make([]api.Digest, 1<<16))
}

// FuzzDecode looks for bytes on which a function panics (P1), or that are not the encoding of what is decoded (P1.6).
func FuzzDecode(f *testing.F) {
	for _, b := range [][]byte{nil, {0}, {4, 2, 1}, {4, 0, 2, 97}, {128, 0}, full(9, 1), full(9, 2), full(10), append([]byte{254}, full(8, 1)...)} {
		f.Add(b)
	}
	f.Fuzz(wantCanonical)
}

func TestLengthsOfIntegers(t *testing.T) {
	l := someInts()
	longest := 0
	for _, n := range l {
		length := len(Int(n))
		if length < 1 || length > 10 || (length == 1) != (n >= -64 && n <= 63) {
			t.Fatalf("P1.7: the encoding of %d has %d bytes", n, length)
		}
		if other := len(Int(-1 - n)); other != length {
			t.Fatalf("P1.7: the encodings of %d and %d have %d and %d bytes", n, -1-n, length, other)
		}
		if n >= 0 { // ascending, so further and further from -1/2
			if length < longest {
				t.Fatalf("P1.7: the encoding of %d has %d bytes, that of a nearer integer %d", n, length, longest)
			}
			longest = length
		}
	}
	if longest != 10 {
		t.Errorf("P1.7: the longest encoding has %d bytes", longest)
	}
}

// TestArgumentsStay checks that no call changes its argument, not even beyond its length.
func TestArgumentsStay(t *testing.T) {
	ints, texts, digests := []int{1, -70, 3}, []string{"a", "", "b"}, []api.Digest{digestOf(1), digestOf(2)}
	Ints(ints[:2])
	Strings(texts[:2])
	Digests(digests[:1])
	if !slices.Equal(ints, []int{1, -70, 3}) || !slices.Equal(texts, []string{"a", "", "b"}) || !slices.Equal(digests, []api.Digest{digestOf(1), digestOf(2)}) {
		t.Error("an encoding has changed its argument")
	}
	for _, b := range [][]byte{Int(-70), Bytes("abc"), Ints(ints), Strings(texts), Digests(digests)} {
		was := slices.Clone(b)
		for n := range len(b) + 1 {
			wantCanonical(t, b[:n])
		}
		if !bytes.Equal(b, was) {
			t.Errorf("a decoding has changed %v to %v", was, b)
		}
	}
}

// TestResultsAreNewMemory changes arguments and results, and looks whether another one follows.
func TestResultsAreNewMemory(t *testing.T) {
	ints, texts, digests := []int{1, -70}, []string{"abc", "d"}, []api.Digest{digestOf(1, 2), digestOf(3)}
	b := Strings(texts)
	got, _, _ := GetStrings(b)
	again, _, _ := GetStrings(b)
	text, _, _ := GetBytes(b[1:])
	again[0] = "x"
	clear(b)
	if !slices.Equal(got, texts) || text != "abc" {
		t.Errorf("GetStrings and GetBytes: %q, %q", got, text)
	}
	b = Digests(digests)
	seen, _, _ := GetDigests(b)
	twice, _, _ := GetDigests(b)
	twice[0][0]++
	clear(b)
	if !slices.Equal(seen, digests) {
		t.Errorf("GetDigests: %v", seen)
	}
	b = Ints(ints)
	numbers, _, _ := GetInts(b)
	other, _, _ := GetInts(b)
	other[0]++
	clear(b)
	if !slices.Equal(numbers, ints) {
		t.Errorf("GetInts: %v", numbers)
	}
	for _, put := range []func() []byte{func() []byte { return Int(300) }, func() []byte { return Bytes("abc") }, func() []byte { return Ints(ints) }, func() []byte { return Strings(texts) }, func() []byte { return Digests(digests) }, func() []byte { return Ints(nil) }} {
		first, want := put(), put()
		_ = append(put()[:0], full(100)...)
		clear(first)
		if second := put(); !bytes.Equal(second, want) {
			t.Errorf("an encoding is %v, and then %v", want, second)
		}
	}
}

// allocated returns how many bytes a call allocates.
func allocated(call func()) uint64 {
	var before, after runtime.MemStats
	runtime.ReadMemStats(&before)
	call()
	runtime.ReadMemStats(&after)
	return after.TotalAlloc - before.TotalAlloc
}

// TestDecodingAllocatesLittle decodes bytes that promise more than they have.
func TestDecodingAllocatesLittle(t *testing.T) {
	for _, rest := range []int{0, 100, 100000} {
		for _, n := range []int{rest, rest + 1, rest / 16, rest/16 + 1, 1 << 24, 1 << 32, 1 << 60, 1<<60 + 1, math.MaxInt} {
			for _, c := range []byte{0, 1, 2, 255} {
				b := append(Int(n), bytes.Repeat([]byte{c}, rest)...)
				limit := uint64(40*len(b) + 1<<16) // some room for what the runtime does meanwhile
				got := allocated(func() {
					GetBytes(b)
					GetInts(b)
					GetStrings(b)
					GetDigests(b)
				})
				if got > limit {
					t.Errorf("decoding %d bytes that promise %d elements allocates %d bytes", len(b), n, got)
				}
			}
		}
	}
}
