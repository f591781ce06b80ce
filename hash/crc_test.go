package hash

import (
	"bytes"
	"math"
	"math/big"
	"math/rand"
	"slices"
	"strings"
	"testing"
)

// ruleCrc is the rule of the chapter for a check, bit by bit.
func ruleCrc(b []byte) int {
	register := uint64(0xffffffffff)
	for _, c := range b {
		for k := 7; k >= 0; k-- {
			f := uint64(c)>>k&1 ^ register>>39
			register = register << 1 & 0xffffffffff
			if f == 1 {
				register ^= 0x0004820009
			}
		}
	}
	return int(register ^ 0xffffffffff)
}

// ruleTimesX is the product of a polynomial of less than 40 bits and x, modulo the polynomial.
func ruleTimesX(a uint64) uint64 {
	a <<= 1
	if a>>40 == 1 {
		a ^= 0x10004820009
	}
	return a
}

// ruleJoin is P2.3, with a factor x for each bit of the second message.
func ruleJoin(a, b, n int) int {
	p := uint64(a) & 0xffffffffff
	for range 8 * n {
		p = ruleTimesX(p)
	}
	return int(p ^ uint64(b)&0xffffffffff)
}

// ruleRemainder is the remainder of a polynomial of any degree, by long division.
func ruleRemainder(a *big.Int) *big.Int {
	divisor := big.NewInt(0x10004820009)
	a = new(big.Int).Set(a)
	for a.BitLen() > 40 {
		a.Xor(a, new(big.Int).Lsh(divisor, uint(a.BitLen()-41)))
	}
	return a
}

// ruleProduct is the product of two polynomials, modulo the polynomial.
func ruleProduct(a, b *big.Int) *big.Int {
	p := new(big.Int)
	for k := range b.BitLen() {
		if b.Bit(k) == 1 {
			p.Xor(p, new(big.Int).Lsh(a, uint(k)))
		}
	}
	return ruleRemainder(p)
}

// ruleFarJoin is P2.3 for large n: x^(8 n) is computed by squaring, from the first bit of n to the last one.
func ruleFarJoin(a, b, n int) int {
	const low = 1<<40 - 1
	power := big.NewInt(1)
	for k := 62; k >= 0; k-- {
		power = ruleProduct(power, power)
		if n>>k&1 == 1 {
			power = ruleProduct(power, big.NewInt(256))
		}
	}
	return int(ruleProduct(big.NewInt(int64(a&low)), power).Int64()) ^ b&low
}

// randomBytes returns n bytes that depend on r only.
func randomBytes(r *rand.Rand, n int) []byte {
	b := make([]byte, n)
	r.Read(b)
	return b
}

func TestCrc40(t *testing.T) {
	for _, x := range []struct {
		b    []byte
		want int
	}{
		{nil, 0},
		{[]byte{}, 0},
		{[]byte{255}, 255},
		{[]byte{255, 255}, 65535},
		{[]byte{254}, 0x00048200f6},
		{bytes.Repeat([]byte{255}, 5), 0xffffffffff},
		{[]byte("123456789"), 0x6dfb3eb59b},
	} {
		if c := Crc40(x.b); c != x.want {
			t.Errorf("P2.1: Crc40(%v) = %#x, want %#x", x.b, c, x.want)
		}
	}
	for i := range 1 << 16 {
		b := []byte{byte(i >> 8), byte(i)}
		if c, want := Crc40(b), ruleCrc(b); c != want {
			t.Fatalf("P2.1: Crc40(%v) = %#x, want %#x", b, c, want)
		}
	}
	r := rand.New(rand.NewSource(1))
	for n := range 400 {
		for _, b := range [][]byte{randomBytes(r, n), make([]byte, n), bytes.Repeat([]byte{255}, n)} {
			if c, want := Crc40(b), ruleCrc(b); c != want || c < 0 || c >= 1<<40 {
				t.Fatalf("P2.1: Crc40(%v) = %#x, want %#x", b, c, want)
			}
		}
	}
}

func TestCrcPieceByPiece(t *testing.T) {
	if n := BeginCrc().Value(); n != 0 {
		t.Errorf("P2.1: the check of nothing is %#x", n)
	}
	r := rand.New(rand.NewSource(2))
	for n := range 60 {
		b := randomBytes(r, n)
		for i := range n + 1 {
			for j := i; j <= n; j++ {
				c := BeginCrc().Add(string(b[:i])).Add(string(b[i:j])).Add("").Add(string(b[j:]))
				if want := ruleCrc(b); c.Value() != want {
					t.Fatalf("P2.1, P2.9: the check of %v in pieces that end at %d and %d is %#x, want %#x", b, i, j, c.Value(), want)
				}
			}
		}
	}
}

func TestCrcStays(t *testing.T) {
	start := BeginCrc()
	c := start.Add("simu")
	one, other := c.Add("lacrum"), c.Add("lation")
	third := one.Add("!")
	for _, x := range []struct {
		c    Crc
		text string
	}{{start, ""}, {c, "simu"}, {one, "simulacrum"}, {other, "simulation"}, {third, "simulacrum!"}, {c, "simu"}} {
		if n, want := x.c.Value(), ruleCrc([]byte(x.text)); n != want {
			t.Errorf("P2.1: the check of %q is %#x, want %#x", x.text, n, want)
		}
	}
}

// ruleWords is P2.2: the bytes of the words, in integers of unlimited size.
func ruleWords(l []int) int {
	var b []byte
	for _, n := range l {
		low := new(big.Int).And(big.NewInt(int64(n)), big.NewInt(1<<40-1))
		b = append(b, low.FillBytes(make([]byte, 5))...)
	}
	return ruleCrc(b)
}

func TestWords(t *testing.T) {
	for _, x := range []struct {
		l    []int
		want int
	}{
		{nil, 0},
		{[]int{}, 0},
		{[]int{1<<40 - 1}, 1<<40 - 1},
		{[]int{-1}, 1<<40 - 1},
		{[]int{math.MaxInt}, 1<<40 - 1},
		{[]int{1<<40 - 2}, 0xfffb7dfff6},
		{[]int{-2}, 0xfffb7dfff6},
		{[]int{0}, ruleCrc(make([]byte, 5))},
		{[]int{1 << 40}, ruleCrc(make([]byte, 5))},
		{[]int{math.MinInt}, ruleCrc(make([]byte, 5))},
		{[]int{0x0102030405}, ruleCrc([]byte{1, 2, 3, 4, 5})},
		{[]int{0x0102030405, -0x0102030405}, ruleCrc([]byte{1, 2, 3, 4, 5, 254, 253, 252, 251, 251})},
	} {
		if c := Words(x.l); c != x.want {
			t.Errorf("P2.2: Words(%v) = %#x, want %#x", x.l, c, x.want)
		}
	}
	r := rand.New(rand.NewSource(3))
	for n := range 100 {
		l := make([]int, n)
		for i := range l {
			l[i] = int(r.Uint64()) >> r.Intn(64)
		}
		was := slices.Clone(l)
		if c, want := Words(l), ruleWords(l); c != want {
			t.Fatalf("P2.2: Words(%v) = %#x, want %#x", l, c, want)
		}
		if !slices.Equal(l, was) {
			t.Fatalf("P2.2: Words has changed its argument %v", was)
		}
	}
}

func TestJoin(t *testing.T) {
	for _, x := range []struct{ a, b, n, want int }{
		{255, 255, 1, 65535},
		{255, 0, 1, 65280},
		{7, 9, 0, 14},
		{1, 1, -1, 0},
		{1, 2, math.MinInt, 0},
		{0, 0, math.MaxInt, 0},
		{0, 5, math.MaxInt, 5},
		{1, 0, 4, 1 << 32},
		{1, 0, 5, 0x0004820009},
		{-1, 0, 0, 1<<40 - 1},
		{0, -1, 0, 1<<40 - 1},
		{0, -1, 3, 1<<40 - 1},
		{1 << 40, 1 << 40, 3, 0},
		{math.MinInt, math.MinInt, 0, 0},
		{math.MaxInt, 1, 0, 1<<40 - 2},
		{1<<40 | 255, -1 << 40, 1, 65280},
	} {
		if c := Join(x.a, x.b, x.n); c != x.want {
			t.Errorf("P2.3: Join(%d, %d, %d) = %#x, want %#x", x.a, x.b, x.n, c, x.want)
		}
	}
	r := rand.New(rand.NewSource(4))
	for n := range 1000 {
		a, b := int(r.Uint64()), int(r.Uint64())
		if c, want := Join(a, b, n), ruleJoin(a, b, n); c != want {
			t.Fatalf("P2.3: Join(%d, %d, %d) = %#x, want %#x", a, b, n, c, want)
		}
		if c := Join(a, b, -1-n); c != 0 {
			t.Fatalf("P2.3: Join(%d, %d, %d) = %#x, want 0", a, b, -1-n, c)
		}
	}
}

// TestPublishedCheck uses the check of this text that is published for the register that begins with zeros: ones at the beginning are like a message before it.
func TestPublishedCheck(t *testing.T) {
	if c, n := Crc40([]byte("123456789")), Join(1<<40-1, 0xd4164fc646, 9); c != n {
		t.Errorf("P2.1, P2.3: the check is %#x, and by joining %#x", c, n)
	}
}

func TestJoinOfMessages(t *testing.T) {
	r := rand.New(rand.NewSource(5))
	for range 2000 {
		m, n := randomBytes(r, r.Intn(50)), randomBytes(r, r.Intn(50))
		if c, want := Join(Crc40(m), Crc40(n), len(n)), ruleCrc(slices.Concat(m, n)); c != want {
			t.Fatalf("P2.3: the check of %v and %v is %#x, want %#x", m, n, c, want)
		}
	}
}

// farLengths returns lengths of messages that nobody has: a number of steps that grows with them would not end.
func farLengths() []int {
	l := []int{math.MaxInt, math.MaxInt - 1, math.MaxInt / 3, 1<<40 - 1, 1<<31 - 1}
	for k := 31; k < 63; k++ {
		l = append(l, 1<<k, 1<<k+5)
	}
	return l
}

func TestFarJoin(t *testing.T) {
	for _, n := range farLengths() {
		for _, a := range []int{1, 255, -1, 1 << 39, 0x123456789a} {
			if c, want := Join(a, 77, n), ruleFarJoin(a, 77, n); c != want {
				t.Errorf("P2.3: Join(%d, 77, %d) = %#x, want %#x", a, n, c, want)
			}
		}
	}
	if c, want := Join(5, 7, 1000), ruleFarJoin(5, 7, 1000); c != want || c != ruleJoin(5, 7, 1000) {
		t.Errorf("P2.3: Join(5, 7, 1000) = %#x, want %#x", c, want)
	}
}

func TestLinearity(t *testing.T) {
	r := rand.New(rand.NewSource(6))
	for n := range 200 {
		a, b, c := randomBytes(r, n), randomBytes(r, n), randomBytes(r, n)
		all := make([]byte, n)
		for i := range all {
			all[i] = a[i] ^ b[i] ^ c[i]
		}
		if got, want := Crc40(all), Crc40(a)^Crc40(b)^Crc40(c); got != want {
			t.Fatalf("P2.6: the check of %v, %v and %v together is %#x, want %#x", a, b, c, got, want)
		}
	}
}

// flip changes the bits of b from at on as pattern says.
func flip(b []byte, at int, pattern uint64) []byte {
	b = slices.Clone(b)
	for k := range 40 {
		if pattern>>k&1 == 1 {
			b[(at+k)/8] ^= 128 >> ((at + k) % 8)
		}
	}
	return b
}

func TestBursts(t *testing.T) {
	r := rand.New(rand.NewSource(7))
	b := randomBytes(r, 64)
	was := Crc40(b)
	for at := range 8*len(b) - 40 {
		patterns := []uint64{1, 1 << 39, 1<<39 | 1, 1<<40 - 1, 0x0004820009, 0x10004820009 >> 1}
		for range 50 {
			patterns = append(patterns, r.Uint64()&mask|1)
		}
		for _, p := range patterns {
			if Crc40(flip(b, at, p)) == was {
				t.Fatalf("P2.7: the burst %#x at %d is not noticed", p, at)
			}
		}
	}
}

// TestShortBursts looks at all bursts of at most 16 bits.
func TestShortBursts(t *testing.T) {
	b := []byte("a burst is noticed")
	was := Crc40(b)
	for at := range 8*len(b) - 40 {
		for p := uint64(1); p < 1<<16; p += 2 {
			if Crc40(flip(b, at, p)) == was {
				t.Fatalf("P2.7: the burst %#x at %d is not noticed", p, at)
			}
		}
	}
}

func TestJoiningInAnyOrder(t *testing.T) {
	r := rand.New(rand.NewSource(8))
	for range 500 {
		m, n, o := randomBytes(r, r.Intn(30)), randomBytes(r, r.Intn(30)), randomBytes(r, r.Intn(30))
		a, b, c := Crc40(m), Crc40(n), Crc40(o)
		first := Join(Join(a, b, len(n)), c, len(o))
		last := Join(a, Join(b, c, len(o)), len(n)+len(o))
		if want := Crc40(slices.Concat(m, n, o)); first != want || last != want {
			t.Fatalf("P2.8: the checks of %v, %v and %v are joined to %#x and %#x, want %#x", m, n, o, first, last, want)
		}
	}
	lengths := append(farLengths(), 0, 1, 2, 3, 255, 256, 65535, 65536)
	for _, n := range lengths {
		for _, m := range lengths {
			if n > math.MaxInt-m {
				continue
			}
			for _, a := range []int{0, 1, -1, 0x123456789a} {
				if c, want := Join(Join(a, 0, n), 0, m), Join(a, 0, n+m); c != want {
					t.Fatalf("P2.8: %d joined with %d and %d bytes is %#x, want %#x", a, n, m, c, want)
				}
			}
		}
	}
}

// TestEveryCheckReturns calls each function of checks with the arguments at the ends of its type.
func TestEveryCheckReturns(t *testing.T) {
	defer func() {
		if r := recover(); r != nil {
			t.Errorf("P1: a call panics: %v", r)
		}
	}()
	ends := []int{math.MinInt, math.MinInt + 1, -1, 0, 1, math.MaxInt - 1, math.MaxInt}
	for _, a := range ends {
		for _, b := range ends {
			for _, n := range ends {
				if c := Join(a, b, n); c < 0 || c >= 1<<40 || n < 0 && c != 0 {
					t.Errorf("P2.3: Join(%d, %d, %d) = %#x", a, b, n, c)
				}
			}
		}
	}
	if c := Words(ends); c != ruleWords(ends) {
		t.Errorf("P2.2: Words(%v) = %#x, want %#x", ends, c, ruleWords(ends))
	}
	long := strings.Repeat("\xff\x00a", 1<<20)
	if c, n := Crc40([]byte(long)), BeginCrc().Add(long).Value(); c != n {
		t.Errorf("P2.1, P2.9: the checks of one message are %#x and %#x", c, n)
	}
}
