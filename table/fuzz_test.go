package table

import (
	"testing"

	"simulacrum/api"
)

// FuzzTables looks for arguments on which a function panics (P1), or has another result than the chapter's rules (P10.1 to P10.6).
func FuzzTables(f *testing.F) {
	f.Add(int64(1), uint32(128), uint32(4224), uint32(256), 2, uint32(384), uint16(132), uint32(385), uint16(388), uint32(259), 2, true)
	f.Add(int64(2), uint32(0), uint32(8192), uint32(4096), 8, uint32(0), uint16(136), uint32(4096+65), uint16(0), uint32(0), 4, false)
	f.Add(int64(0), uint32(1<<31), uint32(131072), uint32(1<<32-128), -1, uint32(1), uint16(8191), uint32(1<<32-1), uint16(1), uint32(1), 3, true)
	f.Fuzz(func(t *testing.T, seed int64, root, va, pa uint32, rights int, table uint32, at uint16, word uint32, at2 uint16, word2 uint32, access int, user bool) {
		m, r := newMaker(seed).memory()
		size := uint32(128 * len(m.Pages))
		m = put(m, int(at)/4*4%int(size), word)
		m = put(m, int(at2)/4*4%int(size), word2)
		for _, root := range []uint32{r, root, root & 8064} {
			for _, va := range []uint32{va, va & 131071, va & 131071 &^ 127} {
				for _, access := range append(accesses(), access&3+1) {
					checkWalk(t, m, root, va, access, user)
					checkSet(t, m, root, va, access, user)
				}
				checkUnmap(t, m, root, va)
				checkMap(t, m, root, va, pa, rights, table)
				if after, e := checkMap(t, m, root, va, pa&8064, rights&14, table&8064); e == api.OK {
					checkGone(t, after, root, va)
				}
				checkMapLarge(t, m, root, va, pa, rights)
				if after, e := checkMapLarge(t, m, root, va&^4095, pa&4096, rights&14); e == api.OK {
					checkList(t, after, root)
					checkGone(t, after, root, va&^4095)
				}
			}
			checkList(t, m, root)
		}
	})
}
