package lines

import (
	"simulacrum/api"
	"simulacrum/wire"
)

// The functions of this file are the chapter's words and rules, taken one by one, with its numbers written out.

// at is a line at a processor.
type at struct{ line, cpu int }

// parts is a control with sets of lines.
type parts struct {
	cpus                 int
	raised, letsIn       map[at]bool
	otherRaised, otherIn [4]uint32   // the bits that are no lines
	routed               map[int]int // by the lines of devices
	otherRoutes          [5]int
}

func partsOf(c api.Control) parts {
	p := parts{cpus: c.CPUs, raised: map[at]bool{}, letsIn: map[at]bool{}, routed: map[int]int{}}
	for cpu := 0; cpu <= 3; cpu++ {
		for line := 0; line <= 4; line++ {
			p.raised[at{line, cpu}] = c.Raised[cpu]>>line%2 == 1
			p.letsIn[at{line, cpu}] = c.Mask[cpu]>>line%2 == 1
		}
		p.otherRaised[cpu], p.otherIn[cpu] = c.Raised[cpu]/32, c.Mask[cpu]/32
	}
	p.routed[1], p.routed[2], p.routed[3] = c.Route[1], c.Route[2], c.Route[3]
	p.otherRoutes[0], p.otherRoutes[4] = c.Route[0], c.Route[4]
	return p
}

func (p parts) control() api.Control {
	c := api.Control{CPUs: p.cpus, Route: p.otherRoutes}
	for line, cpu := range p.routed {
		c.Route[line] = cpu
	}
	for cpu := 0; cpu <= 3; cpu++ {
		c.Raised[cpu], c.Mask[cpu] = p.otherRaised[cpu]*32, p.otherIn[cpu]*32
		for line := 0; line <= 4; line++ {
			if p.raised[at{line, cpu}] {
				c.Raised[cpu] += bitRule(line)
			}
			if p.letsIn[at{line, cpu}] {
				c.Mask[cpu] += bitRule(line)
			}
		}
	}
	return c
}

// bitRule is the bit of a line.
func bitRule(line int) uint32 { return []uint32{1, 2, 4, 8, 16}[line] }

// newRule is the first part of P13.1.
func newRule(cpus int) (api.Control, api.Errno) {
	switch cpus {
	case 1, 2, 3, 4:
		var c api.Control
		c.CPUs = cpus
		return c, 0
	}
	return api.Control{}, 1
}

// validRule is what the terms say of valid controls.
func validRule(c api.Control) bool {
	if c.CPUs != 1 && c.CPUs != 2 && c.CPUs != 3 && c.CPUs != 4 {
		return false
	}
	for cpu := 0; cpu <= 3; cpu++ {
		switch {
		case c.Raised[cpu] >= 32, c.Mask[cpu] >= 32:
			return false
		case cpu >= c.CPUs && (c.Raised[cpu] != 0 || c.Mask[cpu] != 0):
			return false
		}
	}
	for _, line := range []int{1, 2, 3} {
		if c.Route[line] < 0 || c.Route[line] > c.CPUs-1 {
			return false
		}
	}
	return c.Route[0] == 0 && c.Route[4] == 0
}

// raiseRule is P13.2.
func raiseRule(c api.Control, line, cpu int) api.Control {
	p := partsOf(c)
	switch line {
	case 0, 4:
		p.raised[at{line, cpu}] = true
	case 1, 2, 3:
		p.raised[at{line, p.routed[line]}] = true
	}
	return p.control()
}

// pendingRule is P13.3.
func pendingRule(c api.Control, cpu int) uint32 {
	p := partsOf(c)
	var out uint32
	for line := 0; line <= 4; line++ {
		if p.raised[at{line, cpu}] && p.letsIn[at{line, cpu}] {
			out += bitRule(line)
		}
	}
	return out
}

// portRule is P13.4.
func portRule(c api.Control, cpu int, io api.IO) (api.Control, uint32, api.Errno) {
	switch {
	case io.In && io.Port == 0:
		return c, c.Mask[cpu], 0
	case io.In && io.Port == 1:
		return c, pendingRule(c, cpu), 0
	case !io.In && (io.Port == 0 || io.Port == 2 || io.Port == 3 || io.Port == 4):
		p := partsOf(c)
		p.put(cpu, io.Port, int64(io.Value))
		return p.control(), 0, 0
	}
	return c, 0, 5
}

// put does what is put out to a port that there is.
func (p parts) put(cpu, port int, value int64) {
	switch port {
	case 0:
		for line := 0; line <= 4; line++ {
			p.letsIn[at{line, cpu}] = value%2 == 1
			value /= 2
		}
	case 2:
		if value <= 4 {
			p.raised[at{int(value), cpu}] = false
		}
	case 3:
		if value <= int64(p.cpus-1) {
			p.raised[at{4, int(value)}] = true
		}
	case 4:
		line, to := value/16, value%16
		if (line == 1 || line == 2 || line == 3) && to <= int64(p.cpus-1) {
			p.routed[int(line)] = int(to)
		}
	}
}

// numbersRule are the numbers of P13.5.
func numbersRule(c api.Control) []int {
	l := []int{c.CPUs}
	for cpu := 0; cpu < 4; cpu++ {
		l = append(l, int(c.Raised[cpu]))
	}
	for cpu := 0; cpu < 4; cpu++ {
		l = append(l, int(c.Mask[cpu]))
	}
	for line := 0; line < 5; line++ {
		l = append(l, c.Route[line])
	}
	return l
}

// decodeRule is the second part of P13.5.
func decodeRule(b []byte) (api.Control, api.Errno) {
	l, used, e := wire.GetInts(b)
	if e != api.OK || used < len(b) || len(l) != 14 {
		return api.Control{}, 11
	}
	for _, n := range l {
		if n < 0 || n > 31 { // no number of a valid control is greater
			return api.Control{}, 11
		}
	}
	c := api.Control{CPUs: l[0]}
	for cpu := 0; cpu < 4; cpu++ {
		c.Raised[cpu], c.Mask[cpu] = uint32(l[1+cpu]), uint32(l[5+cpu])
	}
	for line := 0; line < 5; line++ {
		c.Route[line] = l[9+line]
	}
	if !validRule(c) {
		return api.Control{}, 11
	}
	return c, 0
}
