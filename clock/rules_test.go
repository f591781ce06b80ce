package clock

import (
	"simulacrum/api"
	"simulacrum/wire"
)

// The functions of this file are the chapter's words and rules, taken one by one, with its numbers written out.

const (
	maxTime  = 2147483647
	maxCount = 1099511627776
)

// parts is a valid clock: what has been offered last, and by processors the readings that are offered and the alarms.
type parts struct {
	last    int
	offered map[int]int
	alarms  map[int]int
}

func partsOf(c api.Clock) parts {
	p := parts{c.Last, map[int]int{}, map[int]int{}}
	for cpu := 0; cpu <= 3; cpu++ {
		if c.Offered[cpu] {
			p.offered[cpu] = c.Reading[cpu]
		}
		if c.Alarm[cpu] != 0 {
			p.alarms[cpu] = c.Alarm[cpu]
		}
	}
	return p
}

func (p parts) clock() api.Clock {
	c := api.Clock{Last: p.last}
	for cpu, reading := range p.offered {
		c.Offered[cpu], c.Reading[cpu] = true, reading
	}
	for cpu, due := range p.alarms {
		c.Alarm[cpu] = due
	}
	return c
}

// isProcessor is what the terms say of processors.
func isProcessor(cpu int) bool { return cpu == 0 || cpu == 1 || cpu == 2 || cpu == 3 }

// validRule is what the terms say of valid clocks (P14.1).
func validRule(c api.Clock) bool {
	if c.Last < 0 || c.Last > maxTime {
		return false
	}
	for cpu := 0; cpu <= 3; cpu++ {
		switch {
		case c.Reading[cpu] < 0, c.Reading[cpu] > c.Last:
			return false
		case !c.Offered[cpu] && c.Reading[cpu] != 0:
			return false
		case c.Alarm[cpu] < 0, c.Alarm[cpu] > maxCount:
			return false
		}
	}
	return true
}

// offerRule is P14.2.
func offerRule(c api.Clock, cpu, reading int) (api.Clock, api.Errno) {
	if !isProcessor(cpu) {
		return c, 1
	}
	if reading < 0 || reading > maxTime {
		return c, 7
	}
	p := partsOf(c)
	if reading < p.last {
		return c, 9
	}
	if _, is := p.offered[cpu]; is {
		return c, 4
	}
	p.last, p.offered[cpu] = reading, reading
	return p.clock(), 0
}

// readRule is P14.3.
func readRule(c api.Clock, cpu int) (api.Clock, uint32, api.Errno) {
	if !isProcessor(cpu) {
		return c, 0, 1
	}
	p := partsOf(c)
	reading, is := p.offered[cpu]
	if !is {
		return c, 0, 4
	}
	delete(p.offered, cpu)
	return p.clock(), uint32(reading), 0
}

// setRule is the first part of P14.4.
func setRule(c api.Clock, cpu, count int, after uint32) (api.Clock, api.Errno) {
	if !isProcessor(cpu) || count < 0 || count > maxCount {
		return c, 1
	}
	p := partsOf(c)
	delete(p.alarms, cpu)
	if after > 0 {
		due := int64(count) + int64(after)
		if due > maxCount {
			due = maxCount
		}
		p.alarms[cpu] = int(due)
	}
	return p.clock(), 0
}

// nextRule is the second part of P14.4.
func nextRule(c api.Clock, cpu int) int { return partsOf(c).alarms[cpu] }

// fireRule is P14.5.
func fireRule(c api.Clock, cpu, count int) (api.Clock, bool) {
	p := partsOf(c)
	due, is := p.alarms[cpu]
	if !is || count < due {
		return c, false
	}
	delete(p.alarms, cpu)
	return p.clock(), true
}

// portRule is P14.10.
func portRule(c api.Clock, cpu, count int, io api.IO) (api.Clock, uint32, api.Errno) {
	if io.Port == 16 && io.In {
		return readRule(c, cpu)
	}
	if io.Port == 17 && !io.In {
		after, e := setRule(c, cpu, count, io.Value)
		return after, 0, e
	}
	return c, 0, 5
}

// numbersRule are the numbers of P14.6.
func numbersRule(c api.Clock) []int {
	l := []int{c.Last}
	for cpu := 0; cpu <= 3; cpu++ {
		if c.Offered[cpu] {
			l = append(l, 1)
		} else {
			l = append(l, 0)
		}
		l = append(l, c.Reading[cpu], c.Alarm[cpu])
	}
	return l
}

// decodeRule is the second part of P14.6.
func decodeRule(b []byte) (api.Clock, api.Errno) {
	l, used, e := wire.GetInts(b)
	if e != api.OK || used < len(b) || len(l) != 13 {
		return api.Clock{}, 11
	}
	c := api.Clock{Last: l[0]}
	for cpu := 0; cpu <= 3; cpu++ {
		switch l[1+3*cpu] {
		case 0:
		case 1:
			c.Offered[cpu] = true
		default:
			return api.Clock{}, 11
		}
		c.Reading[cpu], c.Alarm[cpu] = l[2+3*cpu], l[3+3*cpu]
	}
	if !validRule(c) {
		return api.Clock{}, 11
	}
	return c, 0
}
