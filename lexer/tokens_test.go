package lexer

import (
	"fmt"
	"math/rand"
	"slices"
	"strings"
	"testing"

	"simulacrum/api"
)

// TestExamples has the chapter's tables.
func TestExamples(t *testing.T) {
	for _, x := range []struct {
		src  string
		want []api.Token
	}{
		{"loop: lw r1, 0x10(r2) ; first", []api.Token{{Kind: api.TkName, S: "loop"}, {Kind: api.TkSign, At: 4, S: ":"}, {Kind: api.TkName, At: 6, S: "lw"}, {Kind: api.TkName, At: 9, S: "r1"}, {Kind: api.TkSign, At: 11, S: ","}, {Kind: api.TkNumber, At: 13, N: 16}, {Kind: api.TkSign, At: 17, S: "("}, {Kind: api.TkName, At: 18, S: "r2"}, {Kind: api.TkSign, At: 20, S: ")"}}},
		{`"a\x41\n" -5`, []api.Token{{Kind: api.TkText, S: "aA\n"}, {Kind: api.TkSign, At: 10, S: "-"}, {Kind: api.TkNumber, At: 11, N: 5}}},
		{"\n", []api.Token{{Kind: api.TkEnd}}},
		{"", nil},
		{" \t\r ; nothing", nil},
	} {
		if got, p := Tokens(x.src); !slices.Equal(got, x.want) || p != (api.Problem{}) {
			t.Errorf("P7.1: Tokens(%q) = %v, %v, want %v", x.src, got, p, x.want)
		}
		checkTokens(t, x.src)
	}
	for _, x := range []struct {
		src string
		at  int
		e   api.Errno
	}{
		{"a 12b", 2, api.ErrNumber},
		{"0x", 0, api.ErrNumber},
		{"4294967296", 0, api.ErrNumber},
		{`"a`, 0, api.ErrText},
		{`"\q"`, 0, api.ErrText},
		{"a $", 2, api.ErrChar},
	} {
		if got, p := Tokens(x.src); len(got) > 0 || p != (api.Problem{At: x.at, E: x.e}) {
			t.Errorf("P7.1: Tokens(%q) = %v, %v, want the problem %d at %d", x.src, got, p, x.e, x.at)
		}
		checkTokens(t, x.src)
	}
}

// TestBytes has every pair of bytes, alone and in the middle of a name, a number, a text and a comment.
func TestBytes(t *testing.T) {
	for a := range 256 {
		one := string([]byte{byte(a)})
		checkTokens(t, one)
		for b := range 256 {
			two := one + string([]byte{byte(b)})
			checkTokens(t, two)
			for _, x := range [][2]string{{"a", "1"}, {"1", "1"}, {`"`, `"`}, {";", "\n1"}, {`"\x`, `"`}} {
				checkTokens(t, x[0]+two+x[1])
			}
		}
	}
}

// TestShortSources has all short sources of bytes that matter to each other.
func TestShortSources(t *testing.T) {
	const bytes = "ax09\"\\n;\n ,$\xff"
	var all func(src string, left int)
	all = func(src string, left int) {
		checkTokens(t, src)
		for k := 0; left > 0 && k < len(bytes); k++ {
			all(src+bytes[k:k+1], left-1)
		}
	}
	all("", 4)
	all("0x", 3)
	all(`"\x`, 3)
	all("\"a\\\\", 3)
}

func TestAnySources(t *testing.T) {
	r := rand.New(rand.NewSource(71))
	problems := map[api.Errno]int{}
	for range 20000 {
		_, p := checkTokens(t, anySource(r, 20))
		problems[p.E]++
	}
	for _, e := range []api.Errno{api.OK, api.ErrLimit, api.ErrChar, api.ErrNumber, api.ErrText} {
		if problems[e] < 50 {
			t.Errorf("P7.1: %d sources have the problem %d", problems[e], e)
		}
	}
}

func TestNames(t *testing.T) {
	for n := 1; n < 70; n++ {
		for _, s := range []string{strings.Repeat("a", n), "_" + strings.Repeat("9", n-1), strings.Repeat(".Z", n)[:n]} {
			checkTokens(t, s)
			checkTokens(t, "\n "+s+":")
			got, p := Tokens(" " + s)
			if n <= 32 && (p != api.Problem{} || !slices.Equal(got, []api.Token{{Kind: api.TkName, At: 1, S: s}})) {
				t.Errorf("P7.1: a name of %d bytes: %v, %v", n, got, p)
			}
			if n > 32 && p != (api.Problem{At: 1, E: api.ErrLimit}) {
				t.Errorf("P7.1: a name of %d bytes: %v, %v", n, got, p)
			}
		}
	}
	checkTokens(t, strings.Repeat("a", api.MaxText))
}

func TestNumbers(t *testing.T) {
	for src, want := range map[string]int{
		"0": 0, "7": 7, "00": 0, "007": 7, "4294967295": 4294967295, "0004294967295": 4294967295,
		"0x0": 0, "0xf": 15, "0x00000000000a": 10, "0xffffffff": 4294967295, "0x0ffffffff": 4294967295, "0xabcdef": 11259375, "0x10": 16, "10": 10,
		"4294967296": -1, "0x100000000": -1, "9999999999": -1, "18446744073709551616": -1, "18446744073709551617": -1, "0x10000000000000000": -1, "0x10000000000000001": -1,
		"12b": -1, "0x": -1, "0xg": -1, "0xA": -1, "0xFF": -1, "0X1": -1, "00x1": -1, "0x1x": -1, "0x0x1": -1, "1.": -1, "1_": -1, "1_000": -1, "0b1": -1, "0o7": -1, "1e3": -1, "0x1.": -1, "0x_1": -1, "a1": -2,
	} {
		got, p := Tokens(src)
		switch {
		case want >= 0 && (!slices.Equal(got, []api.Token{{Kind: api.TkNumber, N: want}}) || p != api.Problem{}):
			t.Errorf("P7.1: Tokens(%q) = %v, %v, want the number %d", src, got, p, want)
		case want == -1 && p != (api.Problem{E: api.ErrNumber}):
			t.Errorf("P7.1: Tokens(%q) = %v, %v, want ErrNumber", src, got, p)
		}
		checkTokens(t, src)
		checkTokens(t, "-"+src+"(")
	}
	zeros := strings.Repeat("0", api.MaxText-4)
	for _, src := range []string{zeros + "1234", "0x" + zeros + "ff", "0x" + zeros, zeros + "0x1", strings.Repeat("9", api.MaxText), "0x" + strings.Repeat("f", api.MaxText-2)} {
		checkTokens(t, src)
	}
	r := rand.New(rand.NewSource(72))
	for range 5000 {
		n := r.Uint64() >> r.Intn(64)
		checkTokens(t, fmt.Sprintf("%d 0x%x", n, n>>r.Intn(33)))
	}
}

// checkText has a source that is one text, or that has ErrText if there is no text to want.
func checkText(t *testing.T, src, want string, right bool) {
	t.Helper()
	l, p := []api.Token{{Kind: api.TkText, S: want}}, api.Problem{}
	if !right {
		l, p = nil, api.Problem{E: api.ErrText}
	}
	if got, q := checkTokens(t, src); !slices.Equal(got, l) || q != p {
		t.Errorf("P7.1: Tokens(%q) = %v, %v, want %v, %v", src, got, q, l, p)
	}
}

func TestTexts(t *testing.T) {
	for c := range 256 {
		b := string([]byte{byte(c)})
		checkText(t, fmt.Sprintf(`"\x%02x"`, c), b, true)
		if b != `"` && b != `\` {
			checkText(t, `"`+b+`"`, b, c >= 32 && c <= 126)
			checkText(t, `"a`+b+`c"`, "a"+b+"c", c >= 32 && c <= 126)
		}
		if !strings.Contains(`"\n`, b) {
			checkText(t, `"\`+b+`00"`, "\x00", b == "x")
		}
		for _, src := range []string{`"` + b, `"\` + b, `"\` + b + `"`, `"\x` + b, `"\x` + b + `0"`, `"\x0` + b + `"`, `"\x0` + b, `"` + b + `" "`} {
			checkTokens(t, src)
			checkTokens(t, "a\n"+src)
		}
	}
	for src, want := range map[string]string{`""`: "", `"\""`: `"`, `"\\"`: `\`, `"\n"`: "\n", `"\\n"`: `\n`, `"\\\n"`: "\\\n", `"\x5cn"`: `\n`, `"\x22"`: `"`, `"\xff\x00"`: "\xff\x00", `";, a"`: ";, a"} {
		checkText(t, src, want, true)
	}
	whole := `x "ab\x41\\\"\n c" y`
	for k := range len(whole) + 1 {
		checkTokens(t, whole[:k])
		checkTokens(t, whole[:k]+"\n")
		checkTokens(t, whole[:k]+"\"")
	}
}

// TestSpaces has what is passed over, and comments that end with the line or with the source.
func TestSpaces(t *testing.T) {
	for src, want := range map[string][]api.Token{
		" \t\ra\r\tb ":             {{Kind: api.TkName, At: 3, S: "a"}, {Kind: api.TkName, At: 6, S: "b"}},
		"a;b c\nd":                 {{Kind: api.TkName, S: "a"}, {Kind: api.TkEnd, At: 5}, {Kind: api.TkName, At: 6, S: "d"}},
		"a;b c":                    {{Kind: api.TkName, S: "a"}},
		";\n;\n;":                  {{Kind: api.TkEnd, At: 1}, {Kind: api.TkEnd, At: 3}},
		"; \"\x00\xff$ \r;\n\r\na": {{Kind: api.TkEnd, At: 9}, {Kind: api.TkEnd, At: 11}, {Kind: api.TkName, At: 12, S: "a"}},
		";;":                       nil,
		"a\r\nb":                   {{Kind: api.TkName, S: "a"}, {Kind: api.TkEnd, At: 2}, {Kind: api.TkName, At: 3, S: "b"}},
	} {
		if got, p := checkTokens(t, src); !slices.Equal(got, want) || p != (api.Problem{}) {
			t.Errorf("P7.1: Tokens(%q) = %v, %v, want %v", src, got, p, want)
		}
	}
	for _, c := range "\v\f\x00\x1f\x7f\u0080\u00a0\u2028" {
		if _, p := checkTokens(t, " "+string(c)); p != (api.Problem{At: 1, E: api.ErrChar}) {
			t.Errorf("P7.1: a source with %q has the problem %v", c, p)
		}
	}
}

// TestLongSources has sources as long as they may be, and longer.
func TestLongSources(t *testing.T) {
	for _, s := range []string{"a\n", " ", "\n", ";", "$", "0", `"`, "a", "\xff", `"\`, "1 ", ",", `"a" `} {
		for _, n := range []int{16383, 16384, 16385, 16386, 40000} {
			src := strings.Repeat(s, n)[:n]
			_, p := checkTokens(t, src)
			if long := p == (api.Problem{At: 16384, E: api.ErrLimit}); long != (n > 16384) {
				t.Errorf("P7.1: %d bytes of %q have the problem %v", n, s, p)
			}
		}
	}
	checkTokens(t, `"`+strings.Repeat("a", api.MaxText-2)+`"`)
	checkTokens(t, `"`+strings.Repeat("a", api.MaxText-1)+`"`)
	checkTokens(t, strings.Repeat(" ", api.MaxText-1)+"$")
	if api.MaxText != 16384 || api.MaxName != 32 {
		t.Error("the numbers of the tests are those of other limits")
	}
}

// TestFirstProblem has two problems in a source, of which the first one counts.
func TestFirstProblem(t *testing.T) {
	wrong := []string{strings.Repeat("a", 33), "12b", "0x", "4294967296", `"\q"`, "$", "\"\t\"", "\x80"}
	for _, a := range wrong {
		_, first := Tokens(a)
		if first.E == api.OK || first.At != 0 {
			t.Errorf("P7.1: Tokens(%q) has the problem %v", a, first)
		}
		for _, b := range append(wrong, `"`) {
			if _, p := checkTokens(t, "x, "+a+"\n "+b+" "); p != (api.Problem{At: 3, E: first.E}) {
				t.Errorf("P7.1: %q before %q has the problem %v", a, b, p)
			}
		}
	}
}

func TestTokensAreNew(t *testing.T) {
	const src = "a 1 \"b\" ,\n"
	one, _ := Tokens(src)
	two, _ := Tokens(src)
	clear(one)
	if want, _ := tokensRule(src); !slices.Equal(two, want) {
		t.Error("P7.1: the tokens of one call change with those of another one")
	}
}
