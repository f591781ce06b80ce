package console

import (
	"simulacrum/api"
	"simulacrum/wire"
)

// The functions of this file are the chapter's words and rules, taken one by one, with its numbers written out.

const (
	maxConsole = 64
	maxCount   = 1099511627776
	noByte     = 4294967295
)

// parts is a console as a list of bytes, each one for itself, and how many were lost.
type parts struct {
	in   []byte
	lost int
}

func partsOf(c api.Console) parts {
	p := parts{nil, c.Lost}
	for at := 0; at < len(c.In); at++ {
		p.in = append(p.in, c.In[at])
	}
	return p
}

func (p parts) console() api.Console { return api.Console{In: string(p.in), Lost: p.lost} }

// validRule is what the terms say of valid consoles (P15.1).
func validRule(c api.Console) bool {
	p := partsOf(c)
	if len(p.in) > maxConsole {
		return false
	}
	return p.lost >= 0 && p.lost <= maxCount
}

// feedRule is P15.2.
func feedRule(c api.Console, b byte) (api.Console, bool) {
	p := partsOf(c)
	if len(p.in) == maxConsole {
		if p.lost != maxCount {
			p.lost++
		}
		return p.console(), false
	}
	p.in = append(p.in, b)
	return p.console(), true
}

// portRule is P15.3.
func portRule(c api.Console, io api.IO) (api.Console, uint32, string, bool) {
	p := partsOf(c)
	switch {
	case io.Port == 32 && !io.In:
		lowest := io.Value % 256
		for b := range 256 {
			if uint32(b) == lowest {
				return c, 0, string([]byte{byte(b)}), true
			}
		}
	case io.Port == 33 && io.In:
		if len(p.in) == 0 {
			return c, noByte, "", true
		}
		b := p.in[0]
		p.in = p.in[1:]
		return p.console(), uint32(b), "", true
	case io.Port == 34 && io.In:
		waiting := uint32(0)
		for range p.in {
			waiting++
		}
		return c, waiting, "", true
	}
	return c, 0, "", false
}

// encodeRule is the first part of P15.4.
func encodeRule(c api.Console) []byte {
	var out []byte
	out = append(out, wire.Bytes(c.In)...)
	return append(out, wire.Int(c.Lost)...)
}

// decodeRule is the second part of P15.4.
func decodeRule(b []byte) (api.Console, api.Errno) {
	in, used, e := wire.GetBytes(b)
	if e != 0 {
		return api.Console{}, e
	}
	lost, more, e := wire.GetInt(b[used:])
	if e != 0 {
		return api.Console{}, e
	}
	if len(b[used+more:]) > 0 {
		return api.Console{}, 11
	}
	c := api.Console{In: in, Lost: lost}
	if !validRule(c) {
		return api.Console{}, 3
	}
	return c, 0
}
