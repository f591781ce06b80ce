package lexer

import (
	"math"
	"strconv"
	"strings"

	"simulacrum/api"
)

// Sets of bytes.
const (
	letters     = "abcdefghijklmnopqrstuvwxyzABCDEFGHIJKLMNOPQRSTUVWXYZ_."
	decimal     = "0123456789"
	hexadecimal = decimal + "abcdef"
	signs       = ",:()[]{}=+-*/<>@|&!"
)

const maxNumber = math.MaxUint32

// kind is a kind of tokens: the bytes that one can begin with, and a function that reads the one at the beginning of a source and tells how long it is there.
type kind struct {
	first string
	read  func(src string) (api.Token, int, api.Errno)
}

func allKinds() [5]kind {
	return [...]kind{
		{first: letters, read: readName},
		{first: decimal, read: readNumber},
		{first: `"`, read: readText},
		{first: signs, read: readSign},
		{first: "\n", read: readEnd},
	}
}

// ignored returns how many bytes at the beginning of a source belong to no token.
func ignored(src string) int {
	switch src[0] {
	case ' ', '\t', '\r':
		return 1
	case ';':
		if n := strings.IndexByte(src, '\n'); n >= 0 {
			return n
		}
		return len(src)
	}
	return 0
}

func readName(src string) (api.Token, int, api.Errno) {
	w := word(src)
	if len(w) > api.MaxName {
		return api.Token{}, 0, api.ErrLimit
	}
	return api.Token{Kind: api.TkName, S: strings.Clone(w)}, len(w), api.OK
}

func readNumber(src string) (api.Token, int, api.Errno) {
	w := word(src)
	digits, alphabet := w, decimal
	if strings.HasPrefix(w, "0x") {
		digits, alphabet = w[2:], hexadecimal
	}
	n, ok := value(digits, alphabet)
	if !ok {
		return api.Token{}, 0, api.ErrNumber
	}
	return api.Token{Kind: api.TkNumber, N: n}, len(w), api.OK
}

func readSign(src string) (api.Token, int, api.Errno) {
	return api.Token{Kind: api.TkSign, S: strings.Clone(src[:1])}, 1, api.OK
}

func readEnd(string) (api.Token, int, api.Errno) {
	return api.Token{Kind: api.TkEnd}, 1, api.OK
}

// put appends the source of a right token.
func put(out []byte, t api.Token) []byte {
	switch t.Kind {
	case api.TkNumber:
		return strconv.AppendInt(out, int64(t.N), len(decimal))
	case api.TkText:
		return putText(out, t.S)
	case api.TkEnd:
		return append(out, '\n')
	}
	return append(out, t.S...)
}

func isName(s string) bool {
	return s != "" && len(s) <= api.MaxName && in(letters, s[0]) && word(s) == s
}

// word returns the letters and digits at the beginning of a source.
func word(src string) string {
	rest := strings.TrimLeft(src, letters+decimal)
	return src[:len(src)-len(rest)]
}

// value returns the number that digits of an alphabet say; false if they say none, or one that is too great.
func value(digits, alphabet string) (int, bool) {
	n := 0
	for k := range len(digits) {
		d := strings.IndexByte(alphabet, digits[k])
		if d < 0 {
			return 0, false
		}
		n = n*len(alphabet) + d
		if n > maxNumber {
			return 0, false
		}
	}
	return n, digits != ""
}

func in(set string, c byte) bool { return strings.IndexByte(set, c) >= 0 }
