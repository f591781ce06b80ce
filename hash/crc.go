package hash

const (
	width    = 40 // bits of a check
	mask     = 1<<width - 1
	feedback = 1<<26 | 1<<23 | 1<<17 | 1<<3 | 1 // the polynomial without its leading term
)

// Crc is a message whose check is computed piece by piece.
type Crc struct{ register uint64 }

// BeginCrc returns a Crc whose message is empty.
func BeginCrc() Crc { return Crc{mask} }

// Add returns a Crc whose message is that of c followed by text.
func (c Crc) Add(text string) Crc { return Crc{shiftAll(c.register, text)} }

// Value returns the check of the message.
func (c Crc) Value() int { return int(c.register ^ mask) }

// Crc40 returns the check of b.
func Crc40(b []byte) int { return Crc{shiftAll(mask, b)}.Value() }

// Words returns the check of the lowest 40 bits of each integer, the most significant byte first.
func Words(l []int) int {
	c := BeginCrc()
	for _, n := range l {
		for k := width - 8; k >= 0; k -= 8 {
			c.register = shift(c.register, byte(n>>k))
		}
	}
	return c.Value()
}

// Join returns the check of a message with the check a followed by a message of n bytes with the check b.
func Join(a, b, n int) int {
	if n < 0 {
		return 0
	}
	product, power := uint64(a)&mask, uint64(1<<8)
	for ; n > 0; n >>= 1 {
		if n&1 == 1 {
			product = times(product, power)
		}
		power = times(power, power)
	}
	return int(product ^ uint64(b)&mask)
}

// shift puts the eight bits of a byte through the register at once. What they feed back does not reach the most significant bit again: a byte times the feedback has at most 34 bits.
func shift(register uint64, c byte) uint64 {
	f := register>>(width-8) ^ uint64(c)
	return register<<8&mask ^ f<<26 ^ f<<23 ^ f<<17 ^ f<<3 ^ f
}

func shiftAll[T string | []byte](register uint64, text T) uint64 {
	for i := range len(text) {
		register = shift(register, text[i])
	}
	return register
}

// times returns the product of two polynomials of less than 40 bits modulo the polynomial.
func times(a, b uint64) uint64 {
	var product uint64
	for ; b > 0; b >>= 1 {
		if b&1 == 1 {
			product ^= a
		}
		a <<= 1
		if a > mask {
			a = a&mask ^ feedback
		}
	}
	return product
}
