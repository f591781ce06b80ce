package lines

import "simulacrum/api"

const routeBase = 16 // the value for PoRoute is the line times this, and the processor

// asker is a processor that asks, with the control as it becomes.
type asker struct {
	api.Control
	cpu int
}

// Port does what a processor asks. Its error, with c, is ErrName.
func Port(c api.Control, cpu int, io api.IO) (api.Control, uint32, api.Errno) {
	if !has(c, cpu) {
		return c, 0, api.ErrName
	}
	a := asker{c, cpu}
	if io.In {
		if read, is := a.reads()[io.Port]; is {
			return c, read(), api.OK
		}
	} else if write, is := a.writes()[io.Port]; is {
		write(io.Value)
		return a.Control, 0, api.OK
	}
	return c, 0, api.ErrName
}

// reads returns what answers in, by ports.
func (a *asker) reads() map[int]func() uint32 {
	return map[int]func() uint32{
		api.PoMask:    a.mask,
		api.PoPending: a.pending,
	}
}

// writes returns what answers out, by ports.
func (a *asker) writes() map[int]func(uint32) {
	return map[int]func(uint32){
		api.PoMask:   a.setMask,
		api.PoAck:    a.acknowledge,
		api.PoSignal: a.signal,
		api.PoRoute:  a.route,
	}
}

func (a *asker) mask() uint32 { return a.Mask[a.cpu] }

func (a *asker) pending() uint32 { return Pending(a.Control, a.cpu) }

func (a *asker) setMask(x uint32) { a.Mask[a.cpu] = x & every }

func (a *asker) acknowledge(x uint32) {
	if l := lineNumber(x); l.is() {
		a.Raised[a.cpu] &^= l.bit()
	}
}

func (a *asker) signal(x uint32) { a.Control = Raise(a.Control, int(signal), int(x)) }

func (a *asker) route(x uint32) {
	l, cpu := lineNumber(x/routeBase), int(x%routeBase)
	if l.ofDevice() && has(a.Control, cpu) {
		a.Route[l] = cpu
	}
}
