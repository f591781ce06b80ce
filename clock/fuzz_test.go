package clock

import (
	"testing"

	"simulacrum/api"
)

// FuzzClocks looks for arguments on which a function panics (P1), or has another result than the chapter's rules (P14.1 to P14.10).
func FuzzClocks(f *testing.F) {
	for n, c := range corners() {
		f.Add(Encode(c), int64(n), n%5, 5*n, 10*n, uint32(n), n%2 == 0, 16+n%3)
	}
	f.Fuzz(func(t *testing.T, b []byte, seed int64, cpu, reading, count int, after uint32, reads bool, port int) {
		g := newMaker(seed)
		l := []api.Clock{g.clock()}
		if c, e := checkDecode(t, b); e == api.OK {
			l = append(l, c)
		}
		io := api.IO{In: reads, Port: port, Value: after}
		for _, c := range l {
			for _, cpu := range []int{cpu, int(uint(cpu) % 4)} {
				for _, next := range []api.Clock{c, checkOffer(t, c, cpu, reading), checkRead(t, c, cpu), checkSet(t, c, cpu, count, after), checkFire(t, c, cpu, count), checkPort(t, c, cpu, count, io), checkPort(t, c, cpu, count, g.ask())} {
					checkValid(t, next)
					checkNext(t, next, cpu)
					checkOthers(t, c, cpu, next)
					checkCopies(t, next)
				}
			}
		}
		checkValid(t, g.wrong())
	})
}
