package trap

import "simulacrum/api"

const (
	status = api.StOn | api.StWas | api.StUser // the bits that the status has
	lines  = 1<<api.Lines - 1                  // the bits that are lines
)

// Read returns the control register n; pending are the lines. Its error is ErrArg.
func Read(c api.CPU, n int, pending uint32) (uint32, api.Errno) {
	switch {
	case !isControl(n):
		return 0, api.ErrArg
	case n == api.CoPending:
		return pending & lines, api.OK
	}
	return c.C[n], api.OK
}

// Write returns the processor with another value in the control register n. Its error, with c, is ErrArg.
func Write(c api.CPU, n int, x uint32) (api.CPU, api.Errno) {
	switch {
	case !isControl(n), n == api.CoPending, n == api.CoID:
		return c, api.ErrArg
	case n == api.CoStatus:
		x &= status
	}
	c.C[n] = x
	return c, api.OK
}

// isControl reports whether there is a control register with a number.
func isControl(n int) bool { return 0 <= n && n < api.Controls }

// Due returns the line whose interrupt is due, if there is one.
func Due(c api.CPU, pending uint32) (int, bool) {
	if !has(c, api.StOn) {
		return 0, false
	}
	for n := range api.Lines {
		if pending>>n&1 == 1 {
			return n, true
		}
	}
	return 0, false
}

// Ready reports whether a processor steps.
func Ready(c api.CPU, pending uint32) bool {
	return !c.Halted && (!c.Waiting || pending&lines != 0)
}
