package lexer

import (
	"math/rand"
	"slices"
	"strings"
	"testing"

	"simulacrum/api"
)

// checkAgain checks P7.5 for the tokens of a source.
func checkAgain(t *testing.T, src string) {
	t.Helper()
	l, p := Tokens(src)
	if p.E != api.OK {
		return
	}
	for _, x := range l {
		if !Right(x) {
			t.Fatalf("P7.5: Tokens(%s) has the token %v, which is not right", shown(src), x)
		}
	}
	again, e := Print(l)
	if e == api.ErrLimit {
		if long, _ := printRule(l); long != "" {
			t.Fatalf("P7.5: Print of the tokens of %s is too long", shown(src))
		}
		return
	}
	if m, p := Tokens(again); e != api.OK || p != (api.Problem{}) || !slices.Equal(bare(m), bare(l)) {
		t.Fatalf("P7.5: Print of the tokens of %s is %s, %d: its tokens are %v, %v", shown(src), shown(again), e, m, p)
	}
}

func TestPrintOfTokens(t *testing.T) {
	r := rand.New(rand.NewSource(75))
	for range 5000 {
		checkAgain(t, anySource(r, 30))
	}
	for _, src := range []string{"", "\n", strings.Repeat("\n", 16384), strings.Repeat(",", 8192), strings.Repeat(",", 8193), strings.Repeat(",", 16384), `"` + strings.Repeat("~", 16382) + `"`, `"` + strings.Repeat(`\x00`, 4095) + `"`, strings.Repeat(`"\x41"`, 2700), strings.Repeat("0x0fffffff ", 1489), strings.Repeat("0xfffffff ", 1638)} {
		checkAgain(t, src)
	}
	if l, p := Tokens(strings.Repeat(",", 8193)); p.E != api.OK || len(l) != 8193 {
		t.Errorf("P7.5: %d signs", len(l))
	} else if got, e := Print(l); got != "" || e != api.ErrLimit {
		t.Errorf("P7.5: Print of %d signs has the error %d", len(l), e)
	}
}

// filler returns spaces and tabs, at least one if there must be something, and perhaps a comment if a line end follows.
func filler(r *rand.Rand, must, lineEnd bool) string {
	var out strings.Builder
	for range r.Intn(4) {
		out.WriteByte(" \t\r"[r.Intn(3)])
	}
	if must && out.Len() == 0 {
		out.WriteByte(" \t\r"[r.Intn(3)])
	}
	if lineEnd && r.Intn(2) == 0 {
		out.WriteString([]string{";", "; a 1 \"", ";;\t\xff$\x00", "; 12b \\"}[r.Intn(4)])
	}
	return out.String()
}

// TestSpacesBetween has P7.6: tokens with anything between them that is passed over.
func TestSpacesBetween(t *testing.T) {
	r := rand.New(rand.NewSource(76))
	for range 5000 {
		l := make([]api.Token, r.Intn(12))
		var src strings.Builder
		for k := range l {
			l[k] = anyToken(r)
			// Words that stand side by side would be one token.
			must := k > 0 && l[k].Kind <= 2 && l[k-1].Kind <= 2
			src.WriteString(filler(r, must, l[k].Kind == api.TkEnd))
			l[k].At = src.Len()
			one, _ := printRule(l[k : k+1])
			src.WriteString(one)
		}
		src.WriteString(filler(r, false, true))
		if got, p := Tokens(src.String()); p != (api.Problem{}) || !slices.Equal(got, l) {
			t.Fatalf("P7.6: Tokens(%q) = %v, %v, want %v", src.String(), got, p, l)
		}
	}
}

// checkLocal checks P7.7 for two sources.
func checkLocal(t *testing.T, first, second string) {
	t.Helper()
	whole := first + "\n" + second
	if len(whole) > api.MaxText {
		return
	}
	l, p := Tokens(first)
	m, q := Tokens(second)
	want, problem := append(l, api.Token{Kind: api.TkEnd, At: len(first)}), p
	for _, x := range m {
		x.At += len(first) + 1
		want = append(want, x)
	}
	if p.E == api.OK && q.E != api.OK {
		problem = api.Problem{At: q.At + len(first) + 1, E: q.E}
	}
	if problem.E != api.OK {
		want = nil
	}
	if got, e := Tokens(whole); e != problem || !slices.Equal(got, want) {
		t.Fatalf("P7.7: Tokens(%s) = %v, %v, want %v, %v", shown(whole), got, e, want, problem)
	}
}

func TestLocal(t *testing.T) {
	r := rand.New(rand.NewSource(77))
	for range 10000 {
		checkLocal(t, anySource(r, 12), anySource(r, 12))
	}
	some := []string{"", "a", "12", "12b", "0x", `"`, `"a`, `"a\`, `"\x4`, `"a"`, ";", "; \"", "$", "\n", "a:", strings.Repeat("a", 32), strings.Repeat("a", 33), ",", "\\", strings.Repeat(" ", 8000)}
	for _, a := range some {
		for _, b := range some {
			checkLocal(t, a, b)
		}
	}
}
