package ring

import (
	"testing"

	"simulacrum/api"
)

// FuzzRings looks for arguments on which a function panics (P1), or has another result than the chapter's rules (P16.1 to P16.8).
func FuzzRings(f *testing.F) {
	f.Add(int64(1), flat(example())[256:320], uint32(256), uint32(4), 1, 161, "abcdefg")
	f.Add(int64(2), []byte{16, 0, 0, 0, 8, 0, 0, 0, 3, 0, 0, 0, 1}, uint32(0), uint32(8), 7, 165, "")
	f.Add(int64(3), []byte(nil), uint32(1<<32-16), uint32(1<<31), -1, 0, "a")
	f.Fuzz(func(t *testing.T, seed int64, words []byte, base, size uint32, i, e int, data string) {
		g := newMaker(seed)
		m, r := g.memory()
		given := api.Ring{Base: base, Size: size}
		if checkCheck(t, m, given) != api.OK {
			given = r
		}
		// What is given, is in the memory from the ring on.
		for k, b := range words {
			at := int(given.Base) + k
			if at < 128*len(m.Pages) {
				m.Pages[at/128][at%128] = b
			}
		}
		for _, r := range []api.Ring{r, given} {
			i := int(uint(i) % uint(r.Size))
			checkFirst(t, m, r, i)
			checkFail(t, m, r, i, api.Errno(e))
			checkFail(t, m, r, i, 158+api.Errno(uint(e)%10))
			checkRequest(t, g, m, r, i)
			after, l, _ := checkTake(t, m, r, i)
			checkGather(t, after, l)
			moved, _ := checkScatter(t, after, l, data)
			checkFinish(t, moved, r, l)
		}
	})
}
