package clock

import (
	"bytes"

	"simulacrum/api"
	"simulacrum/wire"
)

// An encoding has Last, and then for each processor whether a reading is offered, the reading, and the alarm.
const (
	perCPU  = 3
	numbers = 1 + api.MaxCPUs*perCPU
)

// Encode returns the encoding of a clock.
func Encode(c api.Clock) []byte {
	l := [numbers]int{c.Last}
	for cpu := range api.MaxCPUs {
		own := l[1+cpu*perCPU:]
		if c.Offered[cpu] {
			own[0] = 1
		}
		own[1], own[2] = c.Reading[cpu], c.Alarm[cpu]
	}
	return wire.Ints(l[:])
}

// Decode returns the valid clock whose encoding the bytes are. Its error is ErrEncoding.
func Decode(b []byte) (api.Clock, api.Errno) {
	l, _, e := wire.GetInts(b)
	if e != api.OK || len(l) != numbers {
		return api.Clock{}, api.ErrEncoding
	}
	c := api.Clock{Last: l[0]}
	for cpu := range api.MaxCPUs {
		own := l[1+cpu*perCPU:]
		c.Offered[cpu], c.Reading[cpu], c.Alarm[cpu] = own[0] == 1, own[1], own[2]
	}
	// Another number than 0 and 1 for what is offered, and bytes behind the numbers, are missing in this clock's own encoding.
	if !Valid(c) || !bytes.Equal(Encode(c), b) {
		return api.Clock{}, api.ErrEncoding
	}
	return c, api.OK
}
