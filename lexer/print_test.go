package lexer

import (
	"math"
	"math/rand"
	"strings"
	"testing"

	"simulacrum/api"
)

// someTokens returns tokens of which some are right: with every kind, and with numbers and strings that some kinds can have.
func someTokens() []api.Token {
	strs := []string{"", "a", "A9._", ".", "_", "9a", "9", "a b", "a\n", "a:", "ä", "a\xff", " ", "\n", "\x00", ";", `"`, `\`, "$", "::", ", ", "\u00e4", "\x80a"}
	for _, n := range []int{31, 32, 33, 34, 64, 256, 288} {
		strs = append(strs, strings.Repeat("a", n), strings.Repeat("1", n), "_"+strings.Repeat("1", n-1))
	}
	for c := range 256 {
		strs = append(strs, string([]byte{byte(c)}), string([]byte{'a', byte(c)}), string([]byte{byte(c), 'a'}), string([]byte{'a', byte(c), 'a'}))
	}
	for _, n := range []int{16383, 16384, 16385, 32768, 1 << 16, 1<<16 + 1} {
		strs = append(strs, strings.Repeat("a", n), strings.Repeat("\xff", n))
	}
	ns := []int{0, 1, -1, 2, 4294967295, 4294967294, 4294967296, 4294967297, -4294967295, -4294967296, 1 << 33, 1 << 62, math.MaxInt, math.MinInt, math.MinInt + 1}
	var out []api.Token
	for _, kind := range []int{0, 1, 2, 3, 4, 5, 6, -1, 256, 257, 1<<32 + 1, math.MinInt + 2, math.MaxInt} {
		for k, n := range ns {
			for _, s := range strs {
				out = append(out, api.Token{Kind: kind, At: k - 3, N: n, S: s})
				if k > 1 && s == "a" {
					break
				}
			}
		}
	}
	return out
}

func TestRight(t *testing.T) {
	count := map[int]int{}
	for _, x := range someTokens() {
		got := Right(x)
		if got != rightRule(x) {
			t.Errorf("P7.2: Right of the kind %d with %d and %s is %v", x.Kind, x.N, shown(x.S), got)
		}
		if got {
			count[x.Kind]++
		}
		x.At = math.MinInt
		if Right(x) != got {
			t.Errorf("P7.2: At matters for the kind %d with %d and %s", x.Kind, x.N, shown(x.S))
		}
	}
	if count[1] < 200 || count[2] != 5 || count[3] < 500 || count[4] != 19 || count[5] != 1 || len(count) != 5 {
		t.Errorf("P7.2: how many tokens of each kind are right: %v", count)
	}
}

// TestRightOnes has tokens as the chapter's words say them.
func TestRightOnes(t *testing.T) {
	for _, x := range []struct {
		t    api.Token
		want bool
	}{
		{api.Token{Kind: api.TkName, S: strings.Repeat("a", 32)}, true},
		{api.Token{Kind: api.TkName, S: strings.Repeat("a", 33)}, false},
		{api.Token{Kind: api.TkName}, false},
		{api.Token{Kind: api.TkName, S: "1a"}, false},
		{api.Token{Kind: api.TkName, S: "a", N: 1}, false},
		{api.Token{Kind: api.TkNumber}, true},
		{api.Token{Kind: api.TkNumber, N: 4294967295, At: -7}, true},
		{api.Token{Kind: api.TkNumber, N: 4294967296}, false},
		{api.Token{Kind: api.TkNumber, N: -1}, false},
		{api.Token{Kind: api.TkNumber, S: "1"}, false},
		{api.Token{Kind: api.TkText}, true},
		{api.Token{Kind: api.TkText, S: strings.Repeat("\xff", 16384)}, true},
		{api.Token{Kind: api.TkText, S: strings.Repeat("a", 16385)}, false},
		{api.Token{Kind: api.TkText, N: -1}, false},
		{api.Token{Kind: api.TkSign, S: "!"}, true},
		{api.Token{Kind: api.TkSign}, false},
		{api.Token{Kind: api.TkSign, S: ",:"}, false},
		{api.Token{Kind: api.TkSign, S: "."}, false},
		{api.Token{Kind: api.TkSign, S: ",", N: 1}, false},
		{api.Token{Kind: api.TkEnd}, true},
		{api.Token{Kind: api.TkEnd, S: "\n"}, false},
		{api.Token{Kind: api.TkEnd, N: 1}, false},
		{api.Token{}, false},
		{api.Token{Kind: 6}, false},
	} {
		if got := Right(x.t); got != x.want {
			t.Errorf("P7.2: Right of the kind %d with %d and %s is %v", x.t.Kind, x.t.N, shown(x.t.S), got)
		}
	}
}

func TestPrint(t *testing.T) {
	a, one, comma, end := api.Token{Kind: api.TkName, S: "a"}, api.Token{Kind: api.TkNumber, N: 1}, api.Token{Kind: api.TkSign, S: ","}, api.Token{Kind: api.TkEnd}
	textOf := func(s string) api.Token { return api.Token{Kind: api.TkText, S: s} }
	for _, x := range []struct {
		l    []api.Token
		want string
	}{
		{nil, ""},
		{[]api.Token{}, ""},
		{[]api.Token{a}, "a"},
		{[]api.Token{a, a, comma, one}, "a a , 1"},
		{[]api.Token{end, end, a, end, one, comma, end}, "\n\na\n1 ,\n"},
		{[]api.Token{comma, comma, {Kind: api.TkNumber}, {Kind: api.TkNumber, N: 4294967295}}, ", , 0 4294967295"},
		{[]api.Token{textOf(""), textOf("a; b"), one}, `"" "a; b" 1`},
		{[]api.Token{textOf("\"\\\n\t\r\x00\x1f ~\x7f\x80\xff")}, `"\"\\\n\x09\x0d\x00\x1f ~\x7f\x80\xff"`},
		{[]api.Token{textOf("\xab\xcd\xef'n")}, `"\xab\xcd\xef'n"`},
		{[]api.Token{end}, "\n"},
	} {
		if got, e := checkPrint(t, x.l); got != x.want || e != api.OK {
			t.Errorf("P7.3: Print(%v) = %q, %d, want %q", x.l, got, e, x.want)
		}
	}
	for c := range 256 {
		checkPrint(t, []api.Token{textOf(string([]byte{byte(c)})), a, textOf(string([]byte{byte(c), 'n', byte(c)}))})
	}
	for c := range strings.SplitSeq(", : ( ) [ ] { } = + - * / < > @ | & !", " ") {
		checkPrint(t, []api.Token{{Kind: api.TkSign, S: c}, one, {Kind: api.TkSign, S: c}, {Kind: api.TkSign, S: c}})
	}
}

// TestPrintErrors has tokens that are not right at all places of a list, and lists that are too long too.
func TestPrintErrors(t *testing.T) {
	wrong := []api.Token{{}, {Kind: api.TkName}, {Kind: api.TkName, S: strings.Repeat("a", 33)}, {Kind: api.TkNumber, N: 1 << 32}, {Kind: api.TkText, S: strings.Repeat("a", api.MaxText+1)}, {Kind: api.TkSign, S: "$"}, {Kind: api.TkEnd, N: 1}}
	long := api.Token{Kind: api.TkText, S: strings.Repeat("a", api.MaxText)}
	for _, w := range wrong {
		for k := range 4 {
			for _, other := range []api.Token{{Kind: api.TkEnd}, {Kind: api.TkName, S: "a"}, long} {
				l := []api.Token{other, other, other, other}
				l[k] = w
				if got, e := checkPrint(t, l); got != "" || e != api.ErrArg {
					t.Errorf("P7.3: Print with a wrong token of the kind %d at %d: %s, %d", w.Kind, k, shown(got), e)
				}
			}
		}
	}
	if got, e := checkPrint(t, []api.Token{long}); got != "" || e != api.ErrLimit {
		t.Errorf("P7.3: Print of a text that is too long: %s, %d", shown(got), e)
	}
	for _, x := range []struct {
		s string
		n int // bytes that say s
	}{{"a", 1}, {"\n", 2}, {"\"", 2}, {"\xff", 4}, {" ", 1}} {
		for room := api.MaxText - 10; room <= api.MaxText+4; room++ {
			l := []api.Token{{Kind: api.TkText, S: strings.Repeat("b", room-2-x.n) + x.s}}
			if _, e := checkPrint(t, l); (e == api.OK) != (room <= api.MaxText) {
				t.Errorf("P7.3: Print of %d bytes has the error %d", room, e)
			}
		}
	}
}

// TestPrintMany has lists of many tokens, around the longest source.
func TestPrintMany(t *testing.T) {
	for _, x := range []struct {
		token api.Token
		most  int // tokens that a source has room for
	}{
		{api.Token{Kind: api.TkEnd}, 16384},
		{api.Token{Kind: api.TkName, S: "a"}, 8192},
		{api.Token{Kind: api.TkNumber, N: 10}, 5461},
		{api.Token{Kind: api.TkText}, 5461},
		{api.Token{Kind: api.TkSign, S: ":"}, 8192},
	} {
		for n := x.most - 2; n <= x.most+3; n++ {
			l := make([]api.Token, n)
			for k := range l {
				l[k] = x.token
			}
			if got, e := Print(l); (e == api.OK) != (n <= x.most) || (got == "") != (n > x.most) {
				t.Errorf("P7.3: Print of %d tokens of the kind %d has the error %d", n, x.token.Kind, e)
			}
		}
	}
	l := make([]api.Token, 1<<16)
	long := strings.Repeat("\xff", api.MaxText)
	for k := range l {
		l[k] = api.Token{Kind: api.TkText, S: long}
	}
	if got, e := Print(l); got != "" || e != api.ErrLimit {
		t.Errorf("P7.3: Print of 2^16 long texts has the error %d", e)
	}
}

func TestPrintAny(t *testing.T) {
	r := rand.New(rand.NewSource(73))
	for range 5000 {
		l := make([]api.Token, r.Intn(12))
		for k := range l {
			l[k] = anyToken(r)
		}
		if _, e := checkPrint(t, l); e != api.OK {
			t.Errorf("P7.3: Print(%v) has the error %d", l, e)
		}
	}
}

func TestPlace(t *testing.T) {
	r := rand.New(rand.NewSource(74))
	all := []string{"", "\n", "\n\n\n", "a", "abc\ndef\n", "\r\n\r\n", "a\r\nb", ";\n\"\n\"", "\xff\n\x80\xc3\xa4\n", strings.Repeat("ab\n", 100), strings.Repeat("a", 300), strings.Repeat("\n", api.MaxText+10)}
	for range 200 {
		all = append(all, anySource(r, 30))
	}
	for _, src := range all {
		checkPlaces(t, src)
	}
	for _, x := range [][3]int{{0, 1, 1}, {3, 1, 4}, {4, 2, 1}, {7, 2, 4}, {8, 3, 1}, {9, 0, 0}, {-1, 0, 0}} {
		if line, column := Place("abc\ndef\n", x[0]); line != x[1] || column != x[2] {
			t.Errorf("P7.4: Place of %d is %d, %d, want %d, %d", x[0], line, column, x[1], x[2])
		}
	}
}

// checkPlaces checks P7.4 for all offsets of a source, and others.
func checkPlaces(t *testing.T, src string) {
	t.Helper()
	want := placesRule(src)
	if len(want) != len(src)+1 {
		t.Fatalf("%d offsets in %s", len(want), shown(src))
	}
	for at, p := range want {
		if line, column := Place(src, at); [2]int{line, column} != p {
			t.Fatalf("P7.4: Place(%s, %d) = %d, %d, want %v", shown(src), at, line, column, p)
		}
	}
	for _, at := range []int{-1, -2, len(src) + 1, len(src) + 2, math.MinInt, math.MaxInt, 1 << 32, -1 << 32} {
		if line, column := Place(src, at); line != 0 || column != 0 {
			t.Fatalf("P7.4: Place(%s, %d) = %d, %d", shown(src), at, line, column)
		}
	}
}
