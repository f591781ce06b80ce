package memory

import (
	"testing"

	"simulacrum/api"
)

// FuzzCalls looks for arguments on which a function panics (P1), or has another result than the chapter's rules (P6.1 to P6.5).
func FuzzCalls(f *testing.F) {
	f.Add(2, int64(1), 128, 4, uint32(0x11223344), 130, 1, "simulacrum")
	f.Add(64, int64(2), 8191, 1, uint32(0x1ff), 8188, 4, "")
	f.Add(1, int64(3), -1, 0, uint32(0), 1<<62, -4, "a")
	f.Add(65, int64(4), 256, 2, uint32(1), 0, 128, "ab")
	f.Fuzz(func(t *testing.T, pages int, seed int64, at, size int, value uint32, at2, n int, data string) {
		checkNew(t, pages)
		m := filled(pages&63+1, seed)
		before, bytes := copied(m), flat(m)
		first, second := api.Write{At: at, Size: size, Value: value}, api.Write{At: at2, Size: n, Value: ^value}
		checkStore(t, before, m, first)
		checkApply(t, before, m, []api.Write{first, second})
		checkWrite(t, before, m, at, data)
		if got, ok := Load(m, at2, size); !is(got, ok)(loadRule(bytes, at2, size)) {
			t.Errorf("P6.2: Load(%d, %d) of %d pages = %#x, %v", at2, size, len(m.Pages), got, ok)
		}
		if got, ok := Read(m, at2, n); !is(got, ok)(readRule(bytes, at2, n)) {
			t.Errorf("P6.4: Read(%d, %d) of %d pages = %q, %v", at2, n, len(m.Pages), got, ok)
		}
		other, _ := Write(m, at, data)
		checkDiff(t, m, other)
	})
}

// is compares two pairs of results.
func is[V comparable](a V, ok bool) func(V, bool) bool {
	return func(b V, wantOk bool) bool { return a == b && ok == wantOk }
}
