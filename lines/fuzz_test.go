package lines

import (
	"testing"

	"simulacrum/api"
)

// FuzzControls looks for arguments on which a function panics (P1), or has another result than the chapter's rules (P13.1 to P13.8).
func FuzzControls(f *testing.F) {
	for n, c := range corners() {
		f.Add(Encode(c), int64(n), n%5, n%4, n%2 == 0, n%5, uint32(16*n+n%4))
	}
	f.Fuzz(func(t *testing.T, b []byte, seed int64, line, cpu int, reads bool, port int, value uint32) {
		g := newMaker(seed)
		l := []api.Control{g.control()}
		if c, e := checkDecode(t, b); e == api.OK {
			l = append(l, c)
		}
		for _, c := range l {
			cpu := int(uint(cpu) % uint(c.CPUs))
			io := api.IO{In: reads, Port: port, Value: value}
			checkOthers(t, c, cpu, io)
			for _, c := range []api.Control{c, checkRaise(t, c, line, cpu), checkPort(t, c, cpu, io), checkPort(t, c, cpu, g.ask())} {
				checkValid(t, c)
				checkPending(t, c)
				checkCopies(t, c)
			}
		}
		checkValid(t, g.wrong())
	})
}
