package console

import (
	"math/rand"
	"strings"

	"simulacrum/api"
)

// maker makes consoles, valid ones and others, and what is asked of them.
type maker struct{ *rand.Rand }

func newMaker(seed int64) maker { return maker{rand.New(rand.NewSource(seed))} }

// in returns one of some values.
func in[V any](g maker, l ...V) V { return l[g.Intn(len(l))] }

// byte returns a byte, often one at an end, or one of which runes of several bytes consist.
func (g maker) byte() byte {
	return in(g, byte(g.Intn(256)), 'a', 0, 127, 128, 0xc3, 0xa9, 0xe6, 0xbf, 0xef, 255)
}

// bytes returns so many bytes.
func (g maker) bytes(n int) string {
	var out []byte
	for range n {
		out = append(out, g.byte())
	}
	return string(out)
}

// lost returns how many bytes may have been lost.
func (g maker) lost() int {
	return in(g, 0, 1, g.Intn(100), 1<<32, g.Intn(1<<40+1), 1<<40-2, 1<<40-1, 1<<40)
}

// console returns a valid console.
func (g maker) console() api.Console {
	return api.Console{In: g.bytes(in(g, 0, 1, 2, 62, 63, 64, g.Intn(65))), Lost: g.lost()}
}

// wrong returns a console that is not valid.
func (g maker) wrong() api.Console {
	c := g.console()
	switch g.Intn(3) {
	case 0:
		c.In = g.bytes(in(g, 65, 66, 127, 128, 129, 256, 320, 1<<14))
	case 1:
		c.Lost = in(g, -1, -2, -64, -1<<32, -1<<40, -1<<63)
	case 2:
		c.Lost = in(g, 1<<40+1, 1<<40+2, 1<<41, 1<<48, 1<<63-1)
	}
	return c
}

// texts returns what may wait: bytes that are no runes, runes of several bytes, and as many bytes as can wait.
func texts() []string {
	return []string{
		"", "a", "ab", "\x00", "\x00\x00", "\x7f\x80", "\xff", "\xff\xfe", "\x80a", "é", "éa", "日本", "\xe6\x97a", "\xf0\x9f\x98\x80", "\xef\xbf\xbd", "\xc0\x80", "\r\n",
		strings.Repeat("a", 63), strings.Repeat("b", 64), strings.Repeat("é", 32), strings.Repeat("\xff", 64), strings.Repeat("日", 21) + "\xe6",
	}
}

// corners returns consoles with what may wait, and how many bytes may have been lost.
func corners() []api.Console {
	var out []api.Console
	for _, s := range texts() {
		for _, lost := range []int{0, 1, 63, 64, 1<<32 - 1, 1 << 32, 1<<40 - 1, 1 << 40} {
			out = append(out, api.Console{In: s, Lost: lost})
		}
	}
	return out
}

// consoles returns the corners, and more valid consoles.
func (g maker) consoles(more int) []api.Console {
	out := corners()
	for range more {
		out = append(out, g.console())
	}
	return out
}

// portNumbers returns numbers of ports, and others.
func portNumbers() []int {
	return []int{-1 << 63, -1<<32 + 33, -34, -33, -32, -1, 0, 1, 2, 3, 16, 17, 30, 31, 32, 33, 34, 35, 36, 47, 48, 64, 96, 256 + 33, 1 << 32, 1<<32 + 32, 1<<32 + 33, 1<<32 + 34, 1<<63 - 1}
}

// values returns what may be put out.
func values() []uint32 {
	var out []uint32
	for n := range uint32(258) {
		out = append(out, n)
	}
	return append(out, 0x141, 0x180, 0x1ff, 0x200, 0x20ac, 0x4100, 0xfffd, 0x10000, 0x1f600, 0x7fffff80, 1<<31-1, 1<<31, 1<<31+0x41, 0xffffff00, 0xffffff41, 1<<32-1)
}

// ask returns something that may be asked.
func (g maker) ask() api.IO {
	return api.IO{In: g.Intn(2) == 0, Port: in(g, 32, 33, 34, in(g, portNumbers()...)), Value: in(g, uint32(g.byte()), g.Uint32())}
}
