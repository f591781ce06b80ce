// Package wire encodes integers, byte strings and lists as byte sequences, and decodes them (layer 1, shared/doc/01-wire.md).
// Every value has exactly one encoding, and nothing else is decoded.
package wire

import "simulacrum/api"

const (
	base    = 128 // of the digits of an integer; also what is added to each byte but the last one
	longest = 10  // bytes of an encoding of an integer at most
)

// Int returns the encoding of an integer.
func Int(n int) []byte { return appendInt(nil, n) }

// GetInt decodes an integer at the beginning of a byte sequence: it returns the integer and the length of its encoding.
func GetInt(b []byte) (int, int, api.Errno) {
	var z uint64
	used := 0
collect:
	for i, c := range b {
		z |= uint64(c%base) << (7 * i)
		switch {
		case i == longest-1 && c > 1, i > 0 && c == 0: // more than 64 bits, or a digit that a shorter encoding does without
			return 0, 0, api.ErrEncoding
		case c < base:
			used = i + 1
			break collect
		}
	}
	if used == 0 {
		return 0, 0, api.ErrTruncated
	}
	return unfold(z), used, api.OK
}

// Bytes returns the encoding of a byte string.
func Bytes(s string) []byte { return appendBytes(nil, s) }

// GetBytes decodes a byte string at the beginning of a byte sequence: it returns the string and the length of its encoding.
func GetBytes(b []byte) (string, int, api.Errno) {
	n, used, e := getLength(b, 1)
	if e != api.OK {
		return "", 0, e
	}
	return string(b[used : used+n]), used + n, api.OK
}

// Ints returns the encoding of a list of integers.
func Ints(l []int) []byte { return encodeList(l, appendInt) }

// GetInts decodes a list of integers at the beginning of a byte sequence.
func GetInts(b []byte) ([]int, int, api.Errno) { return decodeList(b, 1, GetInt) }

// Strings returns the encoding of a list of byte strings.
func Strings(l []string) []byte { return encodeList(l, appendBytes) }

// GetStrings decodes a list of byte strings at the beginning of a byte sequence.
func GetStrings(b []byte) ([]string, int, api.Errno) { return decodeList(b, 1, GetBytes) }

// Digests returns the encoding of a list of digests.
func Digests(l []api.Digest) []byte { return encodeList(l, appendDigest) }

// GetDigests decodes a list of digests at the beginning of a byte sequence.
func GetDigests(b []byte) ([]api.Digest, int, api.Errno) {
	return decodeList(b, api.DigestSize, getDigest)
}

// fold maps integers of small absolute value to small natural numbers: 0, -1, 1, -2, 2 .. become 0, 1, 2, 3, 4 ..
func fold(n int) uint64 {
	if n < 0 {
		return ^(uint64(n) << 1)
	}
	return uint64(n) << 1
}

// unfold is the inverse of fold.
func unfold(z uint64) int {
	if z%2 == 1 {
		return int(^(z >> 1))
	}
	return int(z >> 1)
}

func appendInt(b []byte, n int) []byte {
	z := fold(n)
	for ; z >= base; z /= base {
		b = append(b, byte(z%base+base))
	}
	return append(b, byte(z))
}

func appendBytes(b []byte, s string) []byte { return append(appendInt(b, len(s)), s...) }

func appendDigest(b []byte, d api.Digest) []byte { return append(b, d[:]...) }

// encodeList returns the length of a list and its elements, each as put appends it.
func encodeList[T any](l []T, put func([]byte, T) []byte) []byte {
	b := Int(len(l))
	for _, x := range l {
		b = put(b, x)
	}
	return b
}

// decodeList is the inverse of encodeList, if get is that of put; size is how many bytes an element has at least.
func decodeList[T any](b []byte, size int, get func([]byte) (T, int, api.Errno)) ([]T, int, api.Errno) {
	n, used, e := getLength(b, size)
	if e != api.OK {
		return nil, 0, e
	}
	l := make([]T, 0, n)
	for range n {
		x, k, e := get(b[used:])
		if e != api.OK {
			return nil, 0, e
		}
		l = append(l, x)
		used += k
	}
	return l, used, api.OK
}

// getLength decodes a number of elements of at least size bytes each. It looks for so many bytes behind the number, so that nobody reserves memory for elements that cannot be there.
func getLength(b []byte, size int) (int, int, api.Errno) {
	n, used, e := GetInt(b)
	if e != api.OK {
		return 0, 0, e
	}
	if n < 0 {
		return 0, 0, api.ErrEncoding
	}
	if n > (len(b)-used)/size { // n*size might overflow
		return 0, 0, api.ErrTruncated
	}
	return n, used, api.OK
}

// getDigest takes a digest from bytes that are enough: getLength has seen to that.
func getDigest(b []byte) (api.Digest, int, api.Errno) {
	var d api.Digest
	n := copy(d[:], b)
	return d, n, api.OK
}
