package lines

import (
	"bytes"

	"simulacrum/api"
	"simulacrum/wire"
)

// Where the numbers of an encoding stand: behind CPUs there are those of Raised, Mask and Route.
const (
	atRaised = 1
	atMask   = atRaised + api.MaxCPUs
	atRoute  = atMask + api.MaxCPUs
	numbers  = atRoute + api.Lines
)

// Encode returns the encoding of a control.
func Encode(c api.Control) []byte {
	l := make([]int, numbers)
	l[0] = c.CPUs
	for cpu := range api.MaxCPUs {
		l[atRaised+cpu] = int(c.Raised[cpu])
		l[atMask+cpu] = int(c.Mask[cpu])
	}
	copy(l[atRoute:], c.Route[:])
	return wire.Ints(l)
}

// Decode returns the valid control whose encoding the bytes are. Its error is ErrEncoding.
func Decode(b []byte) (api.Control, api.Errno) {
	l, _, e := wire.GetInts(b)
	if e != api.OK || len(l) != numbers {
		return api.Control{}, api.ErrEncoding
	}
	c := api.Control{CPUs: l[0]}
	for cpu := range api.MaxCPUs {
		c.Raised[cpu] = uint32(l[atRaised+cpu])
		c.Mask[cpu] = uint32(l[atMask+cpu])
	}
	copy(c.Route[:], l[atRoute:])
	// A number that does not fit into its place, and bytes behind the numbers, are missing in this control's own encoding.
	if !Valid(c) || !bytes.Equal(Encode(c), b) {
		return api.Control{}, api.ErrEncoding
	}
	return c, api.OK
}
