package console

import (
	"simulacrum/api"
	"simulacrum/wire"
)

// Encode returns the encoding of a console.
func Encode(c api.Console) []byte {
	return append(wire.Bytes(c.In), wire.Int(c.Lost)...)
}

// Decode returns the valid console whose encoding the bytes are. Its errors are those of wire, ErrEncoding and ErrForm.
func Decode(b []byte) (api.Console, api.Errno) {
	in, used, e := wire.GetBytes(b)
	if e != api.OK {
		return api.Console{}, e
	}
	lost, more, e := wire.GetInt(b[used:])
	if e != api.OK {
		return api.Console{}, e
	}
	if used+more < len(b) {
		return api.Console{}, api.ErrEncoding
	}
	c := api.Console{In: in, Lost: lost}
	if !Valid(c) {
		return api.Console{}, api.ErrForm
	}
	return c, api.OK
}
