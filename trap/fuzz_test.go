package trap

import (
	"testing"

	"simulacrum/api"
)

// FuzzProcessors looks for arguments on which a function panics (P1), or has another result than the chapter's rules (P11.1 to P11.9).
func FuzzProcessors(f *testing.F) {
	f.Add(Encode(api.CPU{}), int64(1), uint32(5), uint32(9), uint32(4), 7, uint32(6))
	for n, c := range corners() {
		f.Add(Encode(c), int64(n), uint32(16), uint32(0), uint32(1<<32-1), n-20, uint32(n))
	}
	f.Fuzz(func(t *testing.T, b []byte, seed int64, cause, value, epc uint32, n int, pending uint32) {
		g := newMaker(seed)
		l := []api.CPU{g.cpu()}
		if c, e := checkDecode(t, b); e == api.OK {
			l = append(l, c)
		}
		for _, c := range l {
			checkValid(t, c)
			checkCopies(t, c)
			checkKept(t, "Enter", c, checkEnter(t, c, cause, value, epc))
			checkKept(t, "Return", c, checkReturn(t, c))
			checkLeft(t, c, cause, value, epc)
			for _, n := range []int{n, n & 15} {
				checkRead(t, c, n, pending)
				after, _ := checkWrite(t, c, n, value)
				checkKept(t, "Write", c, after)
			}
			checkLines(t, c, pending)
			checkDue(t, g, c, pending)
		}
	})
}
