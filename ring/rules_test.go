package ring

import (
	"simulacrum/api"
)

// The functions of this file are the chapter's words and rules, taken one by one, with its numbers written out, for a memory that is one list of bytes.

// flat returns the bytes of a memory.
func flat(m api.Mem) []byte {
	var out []byte
	for _, p := range m.Pages {
		for _, b := range p {
			out = append(out, b)
		}
	}
	return out
}

// folded returns the memory that has these bytes.
func folded(b []byte) api.Mem {
	var m api.Mem
	for k, x := range b {
		if k%128 == 0 {
			m.Pages = append(m.Pages, api.Page{})
		}
		m.Pages[k/128][k%128] = x
	}
	return m
}

// thereRule is what the terms say of rings that are there (P16.1).
func thereRule(b []byte, r api.Ring) bool {
	if r.Size != 1 && r.Size != 2 && r.Size != 4 && r.Size != 8 {
		return false
	}
	if r.Base%16 != 0 {
		return false
	}
	for k := range 16 * int(r.Size) {
		if int(r.Base)+k >= len(b) {
			return false
		}
	}
	return true
}

// row is a descriptor: its four words.
type row struct{ address, length, flags, status int }

func wordOf(b []byte, at int) int {
	return int(b[at]) + 256*int(b[at+1]) + 65536*int(b[at+2]) + 16777216*int(b[at+3])
}

// rowsOf returns the descriptors of a ring.
func rowsOf(b []byte, r api.Ring) []row {
	var out []row
	for i := range int(r.Size) {
		at := int(r.Base) + 16*i
		out = append(out, row{wordOf(b, at), wordOf(b, at+4), wordOf(b, at+8), wordOf(b, at+12)})
	}
	return out
}

// bit reports whether a bit of the flags is set.
func (d row) bit(n int) bool {
	for range n {
		d.flags /= 2
	}
	return d.flags%2 == 1
}

// index is the bits 8 to 15 of the flags.
func (d row) index() int {
	out, weight := 0, 1
	for n := 8; n <= 15; n++ {
		if d.bit(n) {
			out += weight
		}
		weight *= 2
	}
	return out
}

// hasBits reports whether one of the bits 2 to 7 and 16 to 31 of the flags is set.
func (d row) hasBits() bool {
	for n := range 32 {
		if d.bit(n) && (n >= 2 && n <= 7 || n >= 16) {
			return true
		}
	}
	return false
}

// part is what a descriptor with an index names.
func (d row) part(i int) api.Part {
	return api.Part{Index: i, At: d.address, Len: d.length, Write: d.bit(0)}
}

// namesBytes reports whether a length is allowed, and all the bytes are in the memory.
func (d row) namesBytes(size int) bool {
	if d.length < 1 || d.length > 512 {
		return false
	}
	for k := range d.length {
		if d.address+k >= size {
			return false
		}
	}
	return true
}

// withStatus is a list of bytes with another status of a descriptor.
func withStatus(b []byte, r api.Ring, i, status int) []byte {
	out := append([]byte(nil), b...)
	at := int(r.Base) + 16*i + 12
	out[at], out[at+1], out[at+2], out[at+3] = byte(status), 0, 0, 0
	return out
}

// firstRule is P16.2.
func firstRule(b []byte, r api.Ring, pos int) (int, bool) {
	rows := rowsOf(b, r)
	var order []int
	for i := pos; i < len(rows); i++ {
		order = append(order, i)
	}
	for i := 0; i < pos; i++ {
		order = append(order, i)
	}
	for _, i := range order {
		if rows[i].status == 1 {
			return i, true
		}
	}
	return 0, false
}

// errorRule is the first error of P16.3 of the descriptor i that follows others.
func errorRule(size int, rows []row, i int, before []int) api.Errno {
	d := rows[i]
	again, written := false, false
	for _, j := range before {
		again = again || j == i
		written = written || rows[j].bit(0)
	}
	switch {
	case again:
		return 163
	case len(before) == 4:
		return 163
	case d.status != 1:
		return 165
	case !d.namesBytes(size):
		return 161
	case d.hasBits():
		return 164
	case !d.bit(1) && d.index() != 0:
		return 164
	case !d.bit(0) && written:
		return 164
	case d.bit(1) && d.index() >= len(rows):
		return 162
	}
	return 0
}

// requestRule is the descriptors of a request, up to the one with an error.
func requestRule(size int, rows []row, i int) ([]int, api.Errno) {
	var l []int
	for {
		if e := errorRule(size, rows, i, l); e != 0 {
			return l, e
		}
		l = append(l, i)
		if !rows[i].bit(1) {
			return l, 0
		}
		i = rows[i].index()
	}
}

// takeRule is P16.3.
func takeRule(b []byte, r api.Ring, i int) ([]byte, []api.Part, api.Errno) {
	rows := rowsOf(b, r)
	l, e := requestRule(len(b), rows, i)
	if e != 0 {
		if rows[i].status != 1 {
			return b, nil, e
		}
		return withStatus(b, r, i, 4+int(e)-160), nil, e
	}
	var parts []api.Part
	for _, j := range l {
		parts = append(parts, rows[j].part(j))
		b = withStatus(b, r, j, 2)
	}
	return b, parts, 0
}

// finishRule is the first part of P16.4.
func finishRule(b []byte, r api.Ring, l []api.Part) []byte {
	for _, p := range l {
		b = withStatus(b, r, p.Index, 3)
	}
	return b
}

// failRule is the second part of P16.4.
func failRule(b []byte, r api.Ring, i int, e api.Errno) []byte {
	for k, x := range []api.Errno{160, 161, 162, 163, 164, 165} {
		if e == x {
			return withStatus(b, r, i, 4+k)
		}
	}
	return b
}

// addresses returns the addresses of the bytes of the parts that are written, or read, in order.
func addresses(l []api.Part, written bool) []int {
	var out []int
	for _, p := range l {
		for k := range p.Len {
			if p.Write == written {
				out = append(out, p.At+k)
			}
		}
	}
	return out
}

// gatherRule, roomRule and scatterRule are P16.5.
func gatherRule(b []byte, l []api.Part) string {
	var out []byte
	for _, at := range addresses(l, false) {
		out = append(out, b[at])
	}
	return string(out)
}

func roomRule(l []api.Part) int { return len(addresses(l, true)) }

func scatterRule(b []byte, l []api.Part, data string) ([]byte, int) {
	out := append([]byte(nil), b...)
	done := 0
	for _, at := range addresses(l, true) {
		if done < len(data) {
			out[at] = data[done]
			done++
		}
	}
	return out, done
}
