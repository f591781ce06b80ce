package lexer

import (
	"math/rand"
	"testing"

	"simulacrum/api"
)

// FuzzSources looks for arguments on which a function panics (P1), or has another result than the chapter's rules (P7.1 to P7.7).
func FuzzSources(f *testing.F) {
	f.Add("loop: lw r1, 0x10(r2) ; first", 3, 1, 4, "a")
	f.Add("\"a\\x41\\n\" -5", -1, 0, 1<<32, "")
	f.Add("\n\na 12b", 2, -1, 0, "$")
	f.Add("\"\\q\"", 1<<62, 3, -1, "\xff\n\\\"")
	r := rand.New(rand.NewSource(78))
	for range 20 {
		f.Add(anySource(r, 40), r.Intn(20), r.Intn(7), r.Intn(5), anyPiece(r))
	}
	f.Fuzz(func(t *testing.T, src string, at, kind, n int, s string) {
		l, _ := checkTokens(t, src)
		checkAgain(t, src)
		checkLocal(t, src, s)
		x := api.Token{Kind: kind, At: at, N: n, S: s}
		if Right(x) != rightRule(x) {
			t.Errorf("P7.2: Right(%+v) = %v", x, Right(x))
		}
		checkPrint(t, append(l, x))
		if at >= 0 && at <= len(src) {
			line, column := Place(src, at)
			if want := placesRule(src)[at]; [2]int{line, column} != want {
				t.Errorf("P7.4: Place(%q, %d) = %d, %d, want %v", src, at, line, column, want)
			}
		} else if line, column := Place(src, at); line != 0 || column != 0 {
			t.Errorf("P7.4: Place(%q, %d) = %d, %d", src, at, line, column)
		}
	})
}
