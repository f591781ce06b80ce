package console

import (
	"testing"

	"simulacrum/api"
)

// FuzzConsoles looks for arguments on which a function panics (P1), or has another result than the chapter's rules (P15.1 to P15.7).
func FuzzConsoles(f *testing.F) {
	for n, c := range corners() {
		f.Add(Encode(c), c.In, c.Lost, byte(n), n%2 == 0, 31+n%5, uint32(41*n))
	}
	f.Fuzz(func(t *testing.T, b []byte, waiting string, lost int, come byte, reads bool, port int, value uint32) {
		given := api.Console{In: waiting, Lost: lost}
		checkValid(t, given)
		checkEncode(t, given)
		l := []api.Console{{In: waiting[:min(len(waiting), 64)], Lost: int(uint(lost) % (1<<40 + 1))}}
		if c, e := checkDecode(t, b); e == api.OK {
			l = append(l, c)
		}
		for _, c := range l {
			next := []api.Console{c, checkFeed(t, c, come), checkPort(t, c, api.IO{In: reads, Port: port, Value: value})}
			for port := 31; port <= 35; port++ {
				next = append(next, checkPort(t, c, api.IO{In: true, Port: port, Value: value}), checkPort(t, c, api.IO{Port: port, Value: value}))
			}
			for _, after := range next {
				if checkValid(t, after); !Valid(after) {
					t.Fatalf("of %#v there comes %#v", c, after)
				}
				checkCopies(t, after)
			}
		}
	})
}
