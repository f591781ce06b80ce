package console

import (
	"math"

	"simulacrum/api"
)

// changing is a console that an instruction is changing: at first the one that it was, without an answer.
type changing struct {
	api.Console
	value uint32 // that an in returns
	out   string // that an out puts out
}

// port is what an instruction in, or out, can name: its number, its direction, and what it does with the value of an out.
type port struct {
	number int
	in     bool
	do     func(c changing, value uint32) changing
}

// ports returns the ports of a console.
func ports() [3]port {
	return [...]port{
		{api.PoOut, false, put},
		{api.PoIn, true, take},
		{api.PoWaiting, true, count},
	}
}

// put puts out the lowest byte of a value.
func put(c changing, value uint32) changing {
	c.out = text(byte(value))
	return c
}

// take reads the first byte that waits.
func take(c changing, _ uint32) changing {
	c.value, c.In = first(c.In)
	return c
}

// count tells how many bytes wait.
func count(c changing, _ uint32) changing {
	c.value = uint32(len(c.In))
	return c
}

// first returns the first byte of a text, and those behind it; all bits 1, which no byte is, if there is none.
func first(s string) (uint32, string) {
	// Never a second round: it would be at the next rune, and not at the next byte.
	for at := range s {
		return uint32(s[at]), s[at+1:]
	}
	return math.MaxUint32, ""
}

// text returns the text of one byte. It is no rune: from 128 on that would be two bytes.
func text(b byte) string { return string([]byte{b}) }
