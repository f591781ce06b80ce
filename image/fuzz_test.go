package image

import (
	"testing"

	"simulacrum/api"
)

// FuzzImages looks for arguments on which a function panics (P1), or has another result than the chapter's rules (P9.1 to P9.7).
func FuzzImages(f *testing.F) {
	f.Add(Encode(small()), 4, 1, 0, "ab", 4, "c", uint8(2))
	f.Add([]byte("\x06\x00\x02\x00\x00"), 0, 64, 128, "\x00", 129, "", uint8(64))
	f.Add([]byte("\x08\x00\x02\x01\x00\x00"), least, 65, -1, "abcd", most, "a", uint8(65))
	g := newMaker(99)
	for range 20 {
		f.Add(g.bent(Encode(g.image())), g.Intn(200), g.Intn(70), g.Intn(200), g.bytes(9), g.Intn(200), g.bytes(200), uint8(g.Intn(256)))
	}
	f.Fuzz(func(t *testing.T, b []byte, entry, pages, at int, data string, next int, text string, n uint8) {
		if checkDecode(t, b) == api.OK {
			i, _ := Decode(b)
			checkLoad(t, i)
			checkImageAgain(t, i)
		}
		i := api.Image{Entry: entry, Pages: pages, Segments: []api.Segment{{At: at, Data: data}, {At: next, Data: text}}, Disk: make([]api.Page, n%67)}
		checkLoad(t, i)
		checkCPUs(t, i, int(n))
		if checkCheck(t, i) == api.OK {
			checkImageAgain(t, i)
		}
		checkDecode(t, checkEncode(t, i))
		m := api.Mem{Pages: make([]api.Page, pages&63+1)}
		for k := range len(text) {
			m.Pages[(k+int(n))/128%len(m.Pages)][(k+int(n))%128] = text[k]
		}
		if got := checkOf(t, m, entry, i.Disk); got.Pages > 0 {
			checkAgain(t, m, entry, i.Disk)
		}
	})
}
