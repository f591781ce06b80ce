package lexer

import (
	"fmt"
	"math/big"
	"math/rand"
	"regexp"
	"slices"
	"strconv"
	"strings"
	"testing"

	"simulacrum/api"
)

// The functions of this file are the chapter's rules, by regular expressions and lists of runes. A source is taken as a list of runes from 0 to 255, one a byte, so that an expression sees bytes.

var (
	passedRule = regexp.MustCompile(`^([ \t\r]|;[^\n]*)`)
	wordRule   = regexp.MustCompile(`^[a-zA-Z_.0-9]+`)
	numberRule = regexp.MustCompile(`^([0-9]+|0x[0-9a-f]+)$`)
	textRule   = regexp.MustCompile(`^"((?:[\x20\x21\x23-\x5b\x5d-\x7e]|\\["\\n]|\\x[0-9a-f][0-9a-f])*)"`)
	pieceRule  = regexp.MustCompile(`\\x..|\\.|[^\\]`)
	signRule   = regexp.MustCompile(`^[-,:()\[\]{}=+*/<>@|&!]`)
	letterRule = regexp.MustCompile(`^[a-zA-Z_.]`)
	digitRule  = regexp.MustCompile(`^[0-9]`)
	nameRule   = regexp.MustCompile(`^[a-zA-Z_.][a-zA-Z_.0-9]{0,31}$`)
)

// wide returns a string with a rune for each byte.
func wide(s string) string {
	var out strings.Builder
	for _, b := range []byte(s) {
		out.WriteRune(rune(b))
	}
	return out.String()
}

// narrow is the inverse of wide.
func narrow(s string) string {
	var out []byte
	for _, r := range s {
		out = append(out, byte(r))
	}
	return string(out)
}

// tokensRule is P7.1.
func tokensRule(src string) ([]api.Token, api.Problem) {
	if len(src) > 16384 {
		return nil, api.Problem{At: 16384, E: api.ErrLimit}
	}
	var out []api.Token
	rest, at := wide(src), 0
	for rest != "" {
		n := len(passedRule.FindString(rest))
		if n == 0 {
			t, length, e := tokenRule(rest)
			if e != api.OK {
				return nil, api.Problem{At: at, E: e}
			}
			t.At = at
			out = append(out, t)
			n = length
		}
		at += len(narrow(rest[:n]))
		rest = rest[n:]
	}
	return out, api.Problem{}
}

// tokenRule is the first token of a wide source, and its length.
func tokenRule(src string) (api.Token, int, api.Errno) {
	switch w := wordRule.FindString(src); {
	case src[0] == '\n':
		return api.Token{Kind: api.TkEnd}, 1, api.OK
	case letterRule.MatchString(src):
		if len(w) > 32 {
			return api.Token{}, 0, api.ErrLimit
		}
		return api.Token{Kind: api.TkName, S: w}, len(w), api.OK
	case digitRule.MatchString(src):
		n, ok := numberOf(w)
		if !ok {
			return api.Token{}, 0, api.ErrNumber
		}
		return api.Token{Kind: api.TkNumber, N: n}, len(w), api.OK
	case src[0] == '"':
		m := textRule.FindStringSubmatch(src)
		if m == nil {
			return api.Token{}, 0, api.ErrText
		}
		return api.Token{Kind: api.TkText, S: textOf(m[1])}, len(m[0]), api.OK
	case signRule.MatchString(src):
		return api.Token{Kind: api.TkSign, S: src[:1]}, 1, api.OK
	}
	return api.Token{}, 0, api.ErrChar
}

// numberOf is the value of a number, as an integer of unlimited size.
func numberOf(w string) (int, bool) {
	if !numberRule.MatchString(w) {
		return 0, false
	}
	n, ok := new(big.Int), false
	if digits, hex := strings.CutPrefix(w, "0x"); hex {
		n, ok = n.SetString(digits, 16)
	} else {
		n, ok = n.SetString(w, 10)
	}
	if !ok || n.Cmp(big.NewInt(4294967295)) > 0 {
		return 0, false
	}
	return int(n.Int64()), true
}

// textOf is the text that pieces say.
func textOf(pieces string) string {
	return narrow(pieceRule.ReplaceAllStringFunc(pieces, func(p string) string {
		switch {
		case p == `\n`:
			return "\n"
		case len(p) == 4:
			n, _ := strconv.ParseUint(p[2:], 16, 8)
			return string(rune(n))
		}
		return p[len(p)-1:]
	}))
}

// rightRule is P7.2.
func rightRule(t api.Token) bool {
	switch t.Kind {
	case 1:
		return nameRule.MatchString(wide(t.S)) && t.N == 0
	case 2:
		return t.S == "" && 0 <= t.N && t.N <= 4294967295
	case 3:
		return len(t.S) <= 16384 && t.N == 0
	case 4:
		return strings.Contains(", : ( ) [ ] { } = + - * / < > @ | & !", t.S) && len(t.S) == 1 && t.S != " " && t.N == 0
	case 5:
		return t.S == "" && t.N == 0
	}
	return false
}

// printRule is P7.3.
func printRule(l []api.Token) (string, api.Errno) {
	var out string
	for _, t := range l {
		if !rightRule(t) {
			return "", api.ErrArg
		}
	}
	between := false
	for _, t := range l {
		if between && t.Kind != 5 {
			out += " "
		}
		switch t.Kind {
		case 1, 4:
			out += t.S
		case 2:
			out += fmt.Sprint(t.N)
		case 3:
			out += `"` + escapesOf(t.S) + `"`
		case 5:
			out += "\n"
		}
		between = t.Kind != 5
	}
	if len(out) > 16384 {
		return "", api.ErrLimit
	}
	return out, api.OK
}

func escapesOf(text string) string {
	var out strings.Builder
	for _, b := range []byte(text) {
		switch {
		case b == 34:
			out.WriteString(`\"`)
		case b == 92:
			out.WriteString(`\\`)
		case b == 10:
			out.WriteString(`\n`)
		case 32 <= b && b <= 126:
			out.WriteByte(b)
		default:
			fmt.Fprintf(&out, `\x%02x`, b)
		}
	}
	return out.String()
}

// placesRule is P7.4: the line and the column of each offset.
func placesRule(src string) [][2]int {
	out := [][2]int{}
	for n, line := range strings.Split(src, "\n") {
		for column := range len(line) + 1 {
			out = append(out, [2]int{n + 1, column + 1})
		}
	}
	return out
}

// checkTokens checks P7.1, and returns what Tokens returned.
func checkTokens(t *testing.T, src string) ([]api.Token, api.Problem) {
	t.Helper()
	got, p := Tokens(src)
	want, q := tokensRule(src)
	if !slices.Equal(got, want) || p != q {
		t.Fatalf("P7.1: Tokens(%s) = %v, %v, want %v, %v", shown(src), got, p, want, q)
	}
	return got, p
}

// checkPrint checks P7.3, and P7.5 for these tokens; it returns what Print returned.
func checkPrint(t *testing.T, l []api.Token) (string, api.Errno) {
	t.Helper()
	before := slices.Clone(l)
	got, e := Print(l)
	want, q := printRule(l)
	if got != want || e != q {
		t.Fatalf("P7.3: Print(%v) = %s, %d, want %s, %d", l, shown(got), e, shown(want), q)
	}
	if !slices.Equal(l, before) {
		t.Fatalf("P7.3: Print changes its argument %v", before)
	}
	if e != api.OK {
		return got, e
	}
	again, p := Tokens(got)
	if !slices.Equal(bare(again), bare(l)) || p != (api.Problem{}) {
		t.Fatalf("P7.5: the tokens of Print(%v) are %v, with the problem %v", l, again, p)
	}
	return got, e
}

// bare returns tokens without their offsets.
func bare(l []api.Token) []api.Token {
	var out []api.Token
	for _, t := range l {
		t.At = 0
		out = append(out, t)
	}
	return out
}

// shown returns a source as an error of a test shows it.
func shown(src string) string {
	if len(src) > 300 {
		return fmt.Sprintf("%q .. (%d bytes)", src[:300], len(src))
	}
	return fmt.Sprintf("%q", src)
}

// anyPiece returns a part of a source: mostly a token, sometimes a wrong one.
func anyPiece(r *rand.Rand) string {
	some := []string{
		"a", "r1", "loop", "_", ".org", "Z9.", "n", "x41", strings.Repeat("q", 31), strings.Repeat("q", 32), "0", "00", "1", "9", "4294967295", "0x0", "0xffffffff", "0x00000000001", "0x1f",
		`""`, `"a"`, `"a\x41\n"`, `"\\"`, `"\""`, `";"`, `"\xff\x00"`, `" ~"`, ",", ":", "(", ")", "[", "]", "{", "}", "=", "+", "-", "*", "/", "<", ">", "@", "|", "&", "!", "\n", "\n", "\n",
		" ", "  ", "\t", "\r", "\r\n", "; a \" \xff\n", ";\n", ";", " ", " ", " ",
	}
	wrong := []string{strings.Repeat("q", 33), "4294967296", "0x100000000", "0x", "0xG", "0X1", "12b", "1.", `"`, `"\q"`, `"\x4"`, `"\X41"`, `"\xAF"`, "\"\n\"", "\"\x7f\"", "$", "\\", "#", "'", "\x00", "\x80", "\xc3\xa4", "%", "?", "~", "^", "`"}
	if r.Intn(40) == 0 {
		return wrong[r.Intn(len(wrong))]
	}
	return some[r.Intn(len(some))]
}

func anySource(r *rand.Rand, pieces int) string {
	var out strings.Builder
	for range r.Intn(pieces + 1) {
		out.WriteString(anyPiece(r))
	}
	return out.String()
}

// anyToken returns a right token.
func anyToken(r *rand.Rand) api.Token {
	t := api.Token{Kind: 1 + r.Intn(5), At: r.Intn(100) - 50}
	text := make([]byte, r.Intn(20))
	r.Read(text)
	switch t.Kind {
	case api.TkName:
		names := []string{"a", "_", ".", "A0", "z.9_", "r15", "x", "n", strings.Repeat("Zz", 16)}
		t.S = names[r.Intn(len(names))]
	case api.TkNumber:
		t.N = int(r.Uint32()) >> r.Intn(33)
	case api.TkText:
		t.S = string(text)
	case api.TkSign:
		t.S = string(",:()[]{}=+-*/<>@|&!"[r.Intn(19)])
	}
	return t
}
