package trap

import (
	"simulacrum/api"
	"simulacrum/wire"
)

// The functions of this file are the chapter's words and rules, taken one by one, with its numbers written out.

// parts is a processor with its status bit by bit.
type parts struct {
	pc                               uint32
	r                                [16]uint32
	table, vector, epc, cause, value uint32
	on, was, fromUser                bool
	scratch, pending, id             uint32
	inUserMode, waits, halted        bool
	count                            int
	otherBits                        uint32
}

func partsOf(c api.CPU) parts {
	status := c.C[5]
	return parts{
		pc: c.PC, r: c.R,
		table: c.C[0], vector: c.C[1], epc: c.C[2], cause: c.C[3], value: c.C[4],
		on: status%2 == 1, was: status/2%2 == 1, fromUser: status/4%2 == 1, otherBits: status / 8,
		scratch: c.C[6], pending: c.C[7], id: c.C[8],
		inUserMode: c.User, waits: c.Waiting, halted: c.Halted, count: c.Count,
	}
}

func (p parts) cpu() api.CPU {
	status := p.otherBits * 8
	if p.on {
		status++
	}
	if p.was {
		status += 2
	}
	if p.fromUser {
		status += 4
	}
	return api.CPU{
		PC: p.pc, R: p.r,
		C:    [9]uint32{p.table, p.vector, p.epc, p.cause, p.value, status, p.scratch, p.pending, p.id},
		User: p.inUserMode, Waiting: p.waits, Halted: p.halted, Count: p.count,
	}
}

// beginRule is the first part of P11.1.
func beginRule(id int, entry uint32) api.CPU {
	var c api.CPU
	c.C[8] = uint32(id)
	c.PC = entry
	if id > 0 {
		c.Waiting = true
	}
	return c
}

// validRule is what the terms say of valid processors.
func validRule(c api.CPU) bool {
	p := partsOf(c)
	switch {
	case p.r[0] != 0, p.otherBits != 0, p.pending != 0, p.id > 3:
		return false
	case p.count < 0, p.count > 1<<40:
		return false
	case p.waits && p.halted:
		return false
	}
	return true
}

// enterRule is P11.2.
func enterRule(c api.CPU, cause, value, epc uint32) api.CPU {
	p := partsOf(c)
	p.cause, p.value, p.epc = cause, value, epc
	p.was, p.fromUser, p.on = p.on, p.inUserMode, false
	p.pc = p.vector
	p.inUserMode = false
	p.waits = false
	return p.cpu()
}

// returnRule is P11.3.
func returnRule(c api.CPU) api.CPU {
	p := partsOf(c)
	p.pc = p.epc
	p.inUserMode = p.fromUser
	p.on, p.was, p.fromUser = p.was, true, false
	return p.cpu()
}

// pendingRule are the lines that are pending, in order.
func pendingRule(pending uint32) []int {
	var out []int
	for n := 0; n <= 4; n++ {
		if pending>>n%2 == 1 {
			out = append(out, n)
		}
	}
	return out
}

// readRule is the first part of P11.4.
func readRule(c api.CPU, n int, pending uint32) (uint32, api.Errno) {
	if n < 0 || n > 8 {
		return 0, 1
	}
	if n != 7 {
		return c.C[n], 0
	}
	var out uint32
	for _, line := range pendingRule(pending) {
		out += 1 << line
	}
	return out, 0
}

// writeRule is the second part of P11.4.
func writeRule(c api.CPU, n int, x uint32) (api.CPU, api.Errno) {
	p := partsOf(c)
	switch n {
	case 0:
		p.table = x
	case 1:
		p.vector = x
	case 2:
		p.epc = x
	case 3:
		p.cause = x
	case 4:
		p.value = x
	case 5:
		p.on, p.was, p.fromUser = x%2 == 1, x/2%2 == 1, x/4%2 == 1
	case 6:
		p.scratch = x
	default:
		return c, 1
	}
	return p.cpu(), 0
}

// dueRule and readyRule are P11.5.
func dueRule(c api.CPU, pending uint32) (int, bool) {
	if l := pendingRule(pending); partsOf(c).on && len(l) > 0 {
		return l[0], true
	}
	return 0, false
}

func readyRule(c api.CPU, pending uint32) bool {
	if c.Halted {
		return false
	}
	if c.Waiting {
		return len(pendingRule(pending)) > 0
	}
	return true
}

// numbersRule are the numbers of P11.6.
func numbersRule(c api.CPU) []int {
	l := []int{int(c.PC)}
	for n := 0; n < 16; n++ {
		l = append(l, int(c.R[n]))
	}
	for n := 0; n < 9; n++ {
		l = append(l, int(c.C[n]))
	}
	sum := 0
	if c.User {
		sum += 1
	}
	if c.Waiting {
		sum += 2
	}
	if c.Halted {
		sum += 4
	}
	return append(l, sum, c.Count)
}

// mostRule is the greatest number at each place of the encoding of a valid processor; the least one is 0.
func mostRule() [28]int {
	var most [28]int
	for n := range most {
		most[n] = 1<<32 - 1
	}
	most[1] = 0        // R[0]
	most[17+5] = 7     // the status
	most[17+7] = 0     // what is pending
	most[17+8] = 3     // the number of the processor
	most[26] = 5       // neither Waiting and Halted, nor more than these modes
	most[27] = 1 << 40 // Count
	return most
}

// decodeRule is the second part of P11.6.
func decodeRule(b []byte) (api.CPU, api.Errno) {
	l, used, e := wire.GetInts(b)
	if e != api.OK || used < len(b) || len(l) != 28 {
		return api.CPU{}, 11
	}
	for n, most := range mostRule() {
		if l[n] < 0 || l[n] > most {
			return api.CPU{}, 11
		}
	}
	c := api.CPU{PC: uint32(l[0]), Count: l[27]}
	for n := 0; n < 16; n++ {
		c.R[n] = uint32(l[1+n])
	}
	for n := 0; n < 9; n++ {
		c.C[n] = uint32(l[17+n])
	}
	switch l[26] {
	case 1:
		c.User = true
	case 2:
		c.Waiting = true
	case 3:
		c.User, c.Waiting = true, true
	case 4:
		c.Halted = true
	case 5:
		c.User, c.Halted = true, true
	}
	return c, 0
}
