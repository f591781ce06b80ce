package asm

import (
	"testing"

	"simulacrum/api"
)

// FuzzSources looks for arguments on which a function panics (P1), or has another result than the chapter's rules (P8.1 to P8.8).
func FuzzSources(f *testing.F) {
	f.Add("loop: addi r1, r1, -1\nbne r1, r0, loop\nhalt", uint32(0), uint32(8), 4, 1, 2, "ab", "\x00")
	f.Add(".org 8\na: .word a, a + 4, -1\n.entry a", uint32(4294967295), uint32(4), -1, 64, 127, "abcd", "")
	f.Add(".org b\n.org 2\nhalt", uint32(71876609), uint32(4294967295), 124, 65, -1, "", "x")
	w := newWriter(88)
	for range 20 {
		f.Add(w.changed(w.source(10)), w.Uint32(), w.Uint32(), w.Intn(200), w.Intn(70), w.Intn(200), string(w.words()), w.text(20))
	}
	f.Fuzz(func(t *testing.T, src string, word, at uint32, entry, pages, start int, data, sector string) {
		i, p := checkAssemble(t, src)
		if p.E == api.OK {
			checkPut(t, src, i)
			checkDisassemble(t, i)
			if n := numbered(src); len(n) <= api.MaxText {
				if j, q := Assemble(n); !sameImage(i, j) || p != q {
					t.Errorf("P8.7: Assemble(%q) = %+v, %v, but Assemble(%q) = %+v, %v", src, i, p, n, j, q)
				}
			}
		}
		checkInstruction(t, word, at)
		if Instruction(word, 0)[0] != '.' {
			checkAlone(t, word, int(at%4096)*4)
		}
		var page api.Page
		copy(page[:], sector)
		checkDisassemble(t, api.Image{Entry: entry, Pages: pages, Segments: []api.Segment{{At: start, Data: data}, {At: start + len(data), Data: sector}}, Disk: []api.Page{page}})
	})
}
