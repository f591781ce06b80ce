package clock

import "simulacrum/api"

// fault is something that may be wrong with a call: whether it is, and its error.
type fault struct {
	is bool
	e  api.Errno
}

// first returns the error of the first fault that there is; OK if there is none.
func first(faults ...fault) api.Errno {
	for _, f := range faults {
		if f.is {
			return f.e
		}
	}
	return api.OK
}

// isCPU reports whether a processor can have this number.
func isCPU(n int) bool { return upTo(n, api.MaxCPUs-1) }

// isTime reports whether this can be a reading.
func isTime(n int) bool { return upTo(n, api.MaxTime) }

// isCount reports whether a processor can have done so many steps.
func isCount(n int) bool { return upTo(n, api.MaxCount) }

// upTo reports whether a number is from 0 to another one.
func upTo(n, most int) bool { return 0 <= n && n <= most }
