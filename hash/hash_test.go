package hash

import (
	"bytes"
	"crypto/sha256"
	"encoding/hex"
	"math"
	"math/rand"
	"slices"
	"strings"
	"testing"

	"simulacrum/api"
	"simulacrum/wire"
)

func TestSum(t *testing.T) {
	for _, x := range []struct{ text, want string }{
		{"", "e3b0c44298fc1c149afbf4c8996fb92427ae41e4649b934ca495991b7852b855"},
		{"abc", "ba7816bf8f01cfea414140de5dae2223b00361a396177a9cb410ff61f20015ad"},
		{"abcdbcdecdefdefgefghfghighijhijkijkljklmklmnlmnomnopnopq", "248d6a61d20638b8e5c026930c3e6039a33ce45964ff2167f6ecedd419db06c1"},
		{strings.Repeat("a", 1000000), "cdc76e5c9914fb9281a1c7e284d73e67f1809a48a497200e046d39ccc7112cd0"},
	} {
		if h := Sum([]byte(x.text)); hex.EncodeToString(h[:]) != x.want {
			t.Errorf("P2.4: Sum of %d bytes = %x, want %s", len(x.text), h, x.want)
		}
	}
	if h := Sum(nil); h != sha256.Sum256(nil) {
		t.Errorf("P2.4: Sum(nil) = %x", h)
	}
}

// TestSumOfAllLengths goes through the places where the length does or does not fit into the last block.
func TestSumOfAllLengths(t *testing.T) {
	r := rand.New(rand.NewSource(11))
	for n := range 600 {
		for _, b := range [][]byte{randomBytes(r, n), make([]byte, n), bytes.Repeat([]byte{255}, n)} {
			was := slices.Clone(b)
			want := sha256.Sum256(b)
			if h := Sum(b); h != want {
				t.Fatalf("P2.4: Sum of %d bytes = %x, want %x", n, h, want)
			}
			if h := Begin().Add(string(b)).Sum(); h != want {
				t.Fatalf("P2.4: the sum of a stream of %d bytes = %x, want %x", n, h, want)
			}
			if !bytes.Equal(b, was) {
				t.Fatalf("P2.4: Sum has changed its argument of %d bytes", n)
			}
		}
	}
}

func TestStreamPieceByPiece(t *testing.T) {
	r := rand.New(rand.NewSource(12))
	ends := []int{0, 1, 2, 31, 54, 55, 56, 57, 62, 63, 64, 65, 66, 119, 120, 127, 128, 129, 183, 184, 191, 192, 193, 200}
	b := randomBytes(r, 200)
	text := string(b)
	for _, n := range ends {
		want := sha256.Sum256(b[:n])
		for _, i := range ends {
			for _, j := range ends {
				if i > j || j > n {
					continue
				}
				if h := Begin().Add(text[:i]).Add(text[i:j]).Add("").Add(text[j:n]).Sum(); h != want {
					t.Fatalf("P2.4, P2.9: the sum of %d bytes in pieces that end at %d and %d is %x, want %x", n, i, j, h, want)
				}
			}
		}
	}
	s := Begin()
	for i := range len(text) { // a byte at a time
		if h := s.Sum(); h != sha256.Sum256(b[:i]) {
			t.Fatalf("P2.9: the sum of the first %d bytes is %x", i, h)
		}
		s = s.Add(text[i : i+1])
	}
	for range 200 { // any pieces
		b := randomBytes(r, r.Intn(1000))
		s := Begin()
		for rest := string(b); len(rest) > 0; {
			n := r.Intn(len(rest)) + 1
			s, rest = s.Add(rest[:n]), rest[n:]
		}
		if h := s.Sum(); h != sha256.Sum256(b) {
			t.Fatalf("P2.9: the sum of %v is %x", b, h)
		}
	}
}

// TestStreamStays lets several streams go on from one, before and after its sum is asked for.
func TestStreamStays(t *testing.T) {
	for _, n := range []int{0, 1, 55, 56, 60, 63, 64, 65, 120, 128} {
		head := strings.Repeat("s", n)
		s := Begin().Add(head)
		early := s.Add("early")
		s.Sum()
		one, other := s.Add("one"), s.Add(strings.Repeat("other", 20))
		third := one.Add("third")
		early.Sum()
		for _, x := range []struct {
			s    Stream
			text string
		}{
			{s, head}, {early, head + "early"}, {one, head + "one"}, {other, head + strings.Repeat("other", 20)},
			{third, head + "onethird"}, {s, head}, {s.Add("last"), head + "last"},
		} {
			if h := x.s.Sum(); h != sha256.Sum256([]byte(x.text)) {
				t.Errorf("P2.4: the sum of %q is %x", x.text, h)
			}
		}
	}
}

// TestLongMessage has a message of more than 2^32 bits.
func TestLongMessage(t *testing.T) {
	if testing.Short() {
		t.Skip("takes some seconds")
	}
	piece := strings.Repeat("simulacr", 1<<17)
	s, want := Begin(), sha256.New()
	for range 1<<9 + 1 {
		s = s.Add(piece)
		want.Write([]byte(piece))
	}
	if h := s.Sum(); !bytes.Equal(h[:], want.Sum(nil)) {
		t.Errorf("P2.4: the sum of 2^29 + 2^20 bytes is %x", h)
	}
}

// ruleOf is P2.5.
func ruleOf(tag int, parts []string) api.Digest {
	b := []byte{byte((tag%256 + 256) % 256)}
	for _, part := range parts {
		b = append(b, wire.Bytes(part)...)
	}
	h := sha256.Sum256(b)
	return api.Digest(h[:16])
}

func TestOf(t *testing.T) {
	for _, x := range []struct {
		got  api.Digest
		want string
	}{
		{Of(1), "4bf5122f344554c53bde2ebb8cd2b7e3"},
		{Of(0), "6e340b9cffb37a989ca544e6bb780a2c"},
		{Of(97), "ca978112ca1bbdcafac231b39a23dc4d"}, // SHA-256 of "a"
	} {
		if hex.EncodeToString(x.got[:]) != x.want {
			t.Errorf("P2.5: %x, want %s", x.got, x.want)
		}
	}
	long := strings.Repeat("x", 1000)
	lists := [][]string{nil, {}, {""}, {"", ""}, {"a"}, {"ab"}, {"a", "b"}, {"b", "a"}, {"\xff\x00"}, {long}, {"a", long, ""}, {strings.Repeat("y", 63)}, {strings.Repeat("y", 64)}}
	tags := []int{0, 1, 127, 128, 254, 255, 256, 257, 511, 512, 1 << 40, 440, 290, -1, -2, -128, -255, -256, -257, math.MaxInt, math.MinInt, math.MinInt + 1}
	for _, parts := range lists {
		was := slices.Clone(parts)
		for _, tag := range tags {
			if d, want := Of(tag, parts...), ruleOf(tag, parts); d != want {
				t.Errorf("P2.5: Of(%d, %q) = %x, want %x", tag, parts, d, want)
			}
		}
		if !slices.Equal(parts, was) {
			t.Errorf("P2.5: Of has changed its argument %q", was)
		}
	}
	for tag := range 256 {
		if d := Of(tag, "part"); d != Of(tag-256, "part") || d != Of(tag+256, "part") || d != ruleOf(tag, []string{"part"}) {
			t.Errorf("P2.5: Of(%d, part) = %x", tag, d)
		}
	}
}

// TestDigestsDiffer looks for lists and tags that are hashed alike.
func TestDigestsDiffer(t *testing.T) {
	texts := []string{"", "\x00", "\x02", "a", "aa", "\x02a", "a\x02", "a\x00", "\x02a\x02a", strings.Repeat("a", 64), "\x80\x01" + strings.Repeat("a", 64)}
	lists := [][]string{nil}
	for _, a := range texts {
		lists = append(lists, []string{a})
		for _, b := range texts {
			lists = append(lists, []string{a, b})
			for _, c := range texts {
				lists = append(lists, []string{a, b, c})
			}
		}
	}
	seen := map[api.Digest]int{}
	for i, l := range lists {
		for _, tag := range []int{0, 1, 2, 4, 97, 128, 255} {
			d := Of(tag, l...)
			if j, there := seen[d]; there {
				t.Fatalf("P2.9: a tag with %q and a tag with %q have one digest", lists[j], l)
			}
			seen[d] = i
		}
	}
}

// TestResultsStay changes results, and looks whether others follow.
func TestResultsStay(t *testing.T) {
	sum, digest := Sum([]byte("abc")), Of(1, "abc")
	clear(sum[:])
	clear(digest[:])
	if Sum([]byte("abc")) != sha256.Sum256([]byte("abc")) || Of(1, "abc") != ruleOf(1, []string{"abc"}) {
		t.Error("P2.4, P2.5: a result has changed")
	}
	b := []byte("simulacrum")
	sum = Sum(b)
	clear(b)
	if sum != sha256.Sum256([]byte("simulacrum")) {
		t.Error("P2.4: a result changes with its argument")
	}
}

// FuzzPieces looks for a message in two pieces on which a function panics (P1), or whose check or hash another rule has otherwise (P2.1, P2.4, P2.9).
func FuzzPieces(f *testing.F) {
	for _, x := range [][2]string{{"", ""}, {"abc", ""}, {"\xff", "\xff\x00"}, {strings.Repeat("a", 55), "b"}, {strings.Repeat("a", 64), strings.Repeat("b", 120)}} {
		f.Add(x[0], x[1])
	}
	f.Fuzz(func(t *testing.T, m, n string) {
		all := []byte(m + n)
		c, s := BeginCrc().Add(m).Add(n), Begin().Add(m).Add(n)
		if want := ruleCrc(all); c.Value() != want || Crc40(all) != want || Join(Crc40([]byte(m)), Crc40([]byte(n)), len(n)) != want {
			t.Errorf("P2.1, P2.3, P2.9: the check of %q and %q is %#x, want %#x", m, n, c.Value(), want)
		}
		if want := sha256.Sum256(all); s.Sum() != want || Sum(all) != want {
			t.Errorf("P2.4, P2.9: the sum of %q and %q is %x, want %x", m, n, s.Sum(), want)
		}
		if d, want := Of(len(m), m, n), ruleOf(len(m), []string{m, n}); d != want {
			t.Errorf("P2.5: Of(%d, %q, %q) = %x, want %x", len(m), m, n, d, want)
		}
	})
}
