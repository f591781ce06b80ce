package alu

import (
	"math"
	"math/big"
	"math/rand"

	"simulacrum/api"
)

// The functions of this file are the chapter's rules, in integers of unlimited size and in lists of bits.

func number(n int) *big.Int { return big.NewInt(int64(n)) }

// modulo returns n modulo 2^32, from 0 on.
func modulo(n *big.Int) uint32 {
	m := new(big.Int).Mod(n, number(4294967296))
	return uint32(m.Uint64())
}

// power returns 2^k.
func power(k int) *big.Int {
	out := number(1)
	for range k {
		out.Mul(out, number(2))
	}
	return out
}

// bitsOf returns the 32 bits of a word, the lowest one first.
func bitsOf(x uint32) [32]bool {
	var out [32]bool
	for k := range out {
		out[k] = x%2 == 1
		x /= 2
	}
	return out
}

func ofBits(bits [32]bool) uint32 {
	sum := number(0)
	for k, is := range bits {
		if is {
			sum.Add(sum, power(k))
		}
	}
	return modulo(sum)
}

// bitwise joins two words bit by bit.
func bitwise(b, c uint32, join func(x, y bool) bool) uint32 {
	x, y := bitsOf(b), bitsOf(c)
	for k := range x {
		x[k] = join(x[k], y[k])
	}
	return ofBits(x)
}

// signedRule is the signed value of a word, as it stands among the terms.
func signedRule(x uint32) int {
	if int(x) < 2147483648 {
		return int(x)
	}
	return int(x) - 4294967296
}

// oneIf is 1 or 0.
func oneIf(is bool) uint32 {
	if is {
		return 1
	}
	return 0
}

// doRule is the table of P5.1.
func doRule(op int, b, c uint32) (uint32, api.Errno) {
	x, y := number(int(b)), number(int(c))
	k := int(c % 32)
	result := func(w uint32) (uint32, api.Errno) { return w, api.OK }
	switch op {
	case 1:
		return result(modulo(new(big.Int).Add(x, y)))
	case 2:
		return result(modulo(new(big.Int).Sub(x, y)))
	case 3:
		return result(bitwise(b, c, func(x, y bool) bool { return x && y }))
	case 4:
		return result(bitwise(b, c, func(x, y bool) bool { return x || y }))
	case 5:
		return result(bitwise(b, c, func(x, y bool) bool { return x != y }))
	case 6:
		return result(modulo(new(big.Int).Mul(x, power(k))))
	case 7:
		return result(modulo(new(big.Int).Div(x, power(k))))
	case 8:
		return result(modulo(new(big.Int).Mul(x, y)))
	case 9:
		if c == 0 {
			return result(4294967295)
		}
		return result(modulo(new(big.Int).Div(x, y)))
	case 10:
		if c == 0 {
			return result(b)
		}
		return result(modulo(new(big.Int).Mod(x, y)))
	case 11:
		return result(oneIf(signedRule(b) < signedRule(c)))
	case 12:
		return result(oneIf(int(b) < int(c)))
	}
	return 0, 1
}

// takenRule is P5.2.
func takenRule(op int, a, b uint32) bool {
	switch op {
	case 28:
		return int(a) == int(b)
	case 29:
		return int(a) != int(b)
	case 30:
		return signedRule(a) < signedRule(b)
	case 31:
		return int(a) < int(b)
	}
	return false
}

// extendRule is P5.3: all bits above the highest one of the field are as it is.
func extendRule(x uint32, bits int) uint32 {
	l := bitsOf(x)
	for k := bits; k < 32; k++ {
		l[k] = l[bits-1]
	}
	return ofBits(l)
}

// bytesRule has the four bytes of a word, the lowest one first.
func bytesRule(x uint32) [4]byte {
	var out [4]byte
	for k := range out {
		out[k] = byte(x % 256)
		x /= 256
	}
	return out
}

func ofBytes(b [4]byte) uint32 {
	sum := 0
	for k := 3; k >= 0; k-- {
		sum = sum*256 + int(b[k])
	}
	return uint32(sum)
}

// index is k modulo 4, from 0 to 3.
func index(k int) int {
	if k %= 4; k < 0 {
		k += 4
	}
	return k
}

// someWords returns words near the ends of both ranges and near powers of 2, and any.
func someWords(any int) []uint32 {
	out := []uint32{0, 1, 2, 3, 7, 10, 31, 32, 33, 63, 64, 65, 255, 256, 0x01020304, 0x55555555, 0xaaaaaaaa, 0x80000001, math.MaxInt32, 1 << 31, math.MaxUint32, math.MaxUint32 - 1, math.MaxUint32 - 31}
	for k := 2; k < 32; k += 5 {
		out = append(out, 1<<k-1, 1<<k, 1<<k+1, -(1 << k))
	}
	r := rand.New(rand.NewSource(5))
	for range any {
		out = append(out, r.Uint32()>>r.Intn(32))
	}
	return out
}

// someOps returns the numbers of operations, and others: some of them are those of operations modulo 2^6, 2^8 or 2^32.
func someOps() []int {
	out := []int{math.MinInt, math.MinInt + 1, math.MaxInt, 1 << 32, -1 << 32}
	for n := -70; n <= 330; n++ {
		out = append(out, n, n+1<<32, n-1<<32)
	}
	return out
}

// someIndexes returns numbers for bytes of a word, negative ones too.
func someIndexes() []int {
	out := []int{math.MinInt, math.MinInt + 1, math.MinInt + 2, math.MinInt + 3, math.MaxInt, math.MaxInt - 1, math.MaxInt - 2, math.MaxInt - 3, 1<<32 + 1, -1<<32 - 1}
	for k := -17; k <= 17; k++ {
		out = append(out, k)
	}
	return out
}
