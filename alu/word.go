package alu

const (
	wordBits  = 32
	byteBits  = 8
	wordBytes = wordBits / byteBits
	ones      = 1<<wordBits - 1
)

// Signed returns the signed value of a word.
func Signed(x uint32) int { return int(int32(x)) }

// Extend returns the word whose signed value is that of the lowest bits of x, for bits from 1 to 32.
func Extend(x uint32, bits int) uint32 {
	// The chapter does not specify other numbers of bits, but a shift by a negative number would panic.
	if bits < 1 || bits > wordBits {
		return x
	}
	unused := wordBits - bits
	return uint32(int32(x<<unused) >> unused)
}

// Byte returns the byte k of a word, k modulo 4; 0 is the lowest one.
func Byte(x uint32, k int) byte { return byte(x >> place(k)) }

// SetByte returns a word with another byte k, k modulo 4.
func SetByte(x uint32, k int, b byte) uint32 {
	const byteMask = 1<<byteBits - 1
	return x&^(byteMask<<place(k)) | uint32(b)<<place(k)
}

// place returns the lowest bit of the byte k of a word. The mask counts k modulo 4 from 0 to 3 for a negative k too, where % does not.
func place(k int) int { return byteBits * (k & (wordBytes - 1)) }
