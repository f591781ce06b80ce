package trap

import (
	"bytes"

	"simulacrum/api"
	"simulacrum/wire"
)

// numbers is how many an encoding has: PC, the registers, the modes and Count.
const numbers = 1 + api.Regs + api.Controls + 1 + 1

// Modes of a processor in an encoding.
const (
	inUser    = 1
	isWaiting = 2
	isHalted  = 4
)

// Encode returns the encoding of a processor.
func Encode(c api.CPU) []byte {
	l := make([]int, 0, numbers)
	l = append(l, int(c.PC))
	for _, x := range c.R {
		l = append(l, int(x))
	}
	for _, x := range c.C {
		l = append(l, int(x))
	}
	modes := when(c.User, inUser) | when(c.Waiting, isWaiting) | when(c.Halted, isHalted)
	return wire.Ints(append(l, int(modes), c.Count))
}

// Decode returns the valid processor whose encoding the bytes are. Its error is ErrEncoding.
func Decode(b []byte) (api.CPU, api.Errno) {
	l, _, e := wire.GetInts(b)
	if e != api.OK || len(l) != numbers {
		return api.CPU{}, api.ErrEncoding
	}
	next := func() int {
		n := l[0]
		l = l[1:]
		return n
	}
	c := api.CPU{PC: uint32(next())}
	for i := range c.R {
		c.R[i] = uint32(next())
	}
	for i := range c.C {
		c.C[i] = uint32(next())
	}
	modes := next()
	c.User, c.Waiting, c.Halted = modes&inUser != 0, modes&isWaiting != 0, modes&isHalted != 0
	c.Count = next()
	// A number that does not fit into its place, and bytes behind the numbers, are missing in this processor's own encoding.
	if !Valid(c) || !bytes.Equal(Encode(c), b) {
		return api.CPU{}, api.ErrEncoding
	}
	return c, api.OK
}
