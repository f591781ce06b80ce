package clock

import "simulacrum/api"

// Ports of the clock: package api does not name them.
const (
	portReading = 16 // in: the reading that is offered
	portAlarm   = 17 // out: the alarm is due after so many steps
)

// Port does what a processor asks of the clock. Its errors, with c, are ErrName and those of Read and Set.
func Port(c api.Clock, cpu, count int, io api.IO) (api.Clock, uint32, api.Errno) {
	switch {
	case io.In && io.Port == portReading:
		return Read(c, cpu)
	case !io.In && io.Port == portAlarm:
		after, e := Set(c, cpu, count, io.Value)
		return after, 0, e
	}
	return c, 0, api.ErrName
}
