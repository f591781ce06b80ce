package memory

import "simulacrum/api"

const (
	byteBits  = 8
	wordBytes = 4
)

// allowed reports whether a memory can have that many pages.
func allowed(pages int) bool { return pages >= 1 && pages <= api.MaxPages }

// inside reports whether the n bytes from an address on are all in a memory. It takes the address from the size, because the sum of address and n may be too large for an int.
func inside(m api.Mem, at, n int) bool {
	return at >= 0 && n >= 0 && n <= Size(m)-at
}

// there reports whether the place of a size at an address is there.
func there(m api.Mem, at, size int) bool {
	right := size == 1 || size == wordBytes && at%wordBytes == 0
	return right && inside(m, at, size)
}

// from returns the bytes from an address on up to the end of its page. A place that is there never goes beyond a page.
func from(m api.Mem, at int) []byte {
	return m.Pages[at/api.PageSize][at%api.PageSize:]
}

// word is the bytes of a number, the least one first.
type word [wordBytes]byte

func bytesOf(n uint32) word {
	var out word
	for k := range out {
		out[k] = byte(n >> (byteBits * k))
	}
	return out
}

func (w word) number() uint32 {
	n := uint32(0)
	for k, b := range w {
		n |= uint32(b) << (byteBits * k)
	}
	return n
}
