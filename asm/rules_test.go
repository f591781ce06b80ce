package asm

import (
	"fmt"
	"maps"
	"slices"
	"strings"
	"testing"

	"simulacrum/api"
	"simulacrum/isa"
	"simulacrum/lexer"
)

// The functions of this file are the chapter's rules: its grammar and its table of operands are taken as texts, and the tokens of a line are compared with what is left of the grammar behind each of them.

const grammarText = `
line      = { NAME ":" } [ statement ]
directive = ".pages" NUMBER | ".entry" value | ".org" value | ".word" value { "," value } | ".text" TEXT | ".space" NUMBER | ".disk" TEXT
value     = [ "-" ] NUMBER | NAME [ ( "+" | "-" ) NUMBER ]
`

// operandsText has operations, their operands, and which fields these are.
const operandsText = `
add sub and or xor shl shr mul div rem slt sltu / register "," register "," register / A B C
addi / register "," register "," value / A B Imm
lw lb sw sb swap jalr / register "," value "(" register ")" / A Imm B
beq bne blt bltu / register "," register "," value / A B target
high csrr csrw in out / register "," value / A Imm
jal / register "," value / A target
flush / register / B
ecall eret wait halt / /
`

type operandRow struct {
	operands string
	fields   []string
}

// The grammar and the table are read once, since many sources are compared with them.
var (
	lineGrammar  = grammar()
	operandTable = operandRows()
)

// operandRows returns the table of operands by the names of the operations.
func operandRows() map[string]operandRow {
	out := map[string]operandRow{}
	for _, row := range strings.Split(strings.TrimSpace(operandsText), "\n") {
		columns := strings.Split(row, "/")
		for _, op := range strings.Fields(columns[0]) {
			out[op] = operandRow{strings.TrimSpace(columns[1]), strings.Fields(columns[2])}
		}
	}
	return out
}

// expr is a grammar: nil has no text.
type expr struct {
	kind  string // "one of", "row", "any number", or "token"
	parts []*expr
	token string // a word of the grammar
}

// grammar returns the grammar of lines.
func grammar() *expr {
	words := map[string][]string{}
	for _, row := range strings.Split(strings.TrimSpace(grammarText), "\n") {
		f := strings.Fields(row)
		words[f[0]] = f[2:]
	}
	words["statement"] = []string{"directive"}
	for op, row := range operandTable {
		words["statement"] = append(words["statement"], strings.Fields(fmt.Sprintf(`| "%s" %s`, op, row.operands))...)
	}
	rest := words["line"]
	return parse(&rest, words)
}

// parse reads a grammar up to a bracket that closes, or the end.
func parse(l *[]string, words map[string][]string) *expr {
	out := &expr{kind: "one of", parts: []*expr{{kind: "row"}}}
	add := func(e *expr) {
		row := out.parts[len(out.parts)-1]
		row.parts = append(row.parts, e)
	}
	for len(*l) > 0 {
		w := (*l)[0]
		*l = (*l)[1:]
		switch w {
		case "|":
			out.parts = append(out.parts, &expr{kind: "row"})
		case "{":
			add(&expr{kind: "any number", parts: []*expr{parse(l, words)}})
		case "[":
			add(&expr{kind: "one of", parts: []*expr{{kind: "row"}, parse(l, words)}})
		case "(":
			add(parse(l, words))
		case "}", "]", ")":
			return out
		default:
			if rest, ok := words[w]; ok {
				add(parse(&rest, words))
			} else {
				add(&expr{kind: "token", token: w})
			}
		}
	}
	return out
}

// empty reports whether a grammar has the text without tokens.
func empty(e *expr) bool {
	switch e.kind {
	case "one of":
		return slices.ContainsFunc(e.parts, empty)
	case "row":
		return !slices.ContainsFunc(e.parts, func(x *expr) bool { return !empty(x) })
	}
	return e.kind == "any number"
}

// behind returns the grammar of what can stand behind a token with which a text begins.
func behind(e *expr, t api.Token) *expr {
	var out []*expr
	add := func(first *expr, rest ...*expr) {
		switch x := behind(first, t); {
		case x == nil:
		case x.kind == "row":
			out = append(out, row(append(slices.Clone(x.parts), rest...)))
		default:
			out = append(out, row(append([]*expr{x}, rest...)))
		}
	}
	switch e.kind {
	case "token":
		if fits(e.token, t) {
			return row(nil)
		}
	case "any number":
		add(e.parts[0], e)
	case "one of":
		for _, part := range e.parts {
			add(part)
		}
	case "row":
		for k, part := range e.parts {
			add(part, e.parts[k+1:]...)
			if !empty(part) {
				break
			}
		}
	}
	switch len(out) {
	case 0:
		return nil
	case 1:
		return out[0]
	}
	return &expr{kind: "one of", parts: out}
}

// row returns the grammar of parts one after the other.
func row(parts []*expr) *expr {
	if len(parts) == 1 {
		return parts[0]
	}
	return &expr{kind: "row", parts: parts}
}

// fits reports whether a token is what a word of the grammar says.
func fits(word string, t api.Token) bool {
	switch word {
	case "NAME":
		return t.Kind == api.TkName
	case "NUMBER":
		return t.Kind == api.TkNumber
	case "TEXT":
		return t.Kind == api.TkText
	case "register":
		return t.Kind == api.TkName && registerOf(t.S) >= 0
	}
	return (t.Kind == api.TkName || t.Kind == api.TkSign) && word == `"`+t.S+`"`
}

func registerOf(name string) int {
	return slices.Index(strings.Fields("r0 r1 r2 r3 r4 r5 r6 r7 r8 r9 r10 r11 r12 r13 r14 r15"), name)
}

// lineRule is a line: its tokens, where it ends, the names of its labels, its statement, and the place of this.
type lineRule struct {
	tokens    []api.Token
	end       int
	labels    []api.Token
	statement []api.Token
	place     int
}

// linesRule returns the lines of tokens.
func linesRule(src string, tokens []api.Token) []lineRule {
	var out []lineRule
	var now lineRule
	for _, t := range append(slices.Clone(tokens), api.Token{Kind: api.TkEnd, At: len(src)}) {
		if t.Kind != api.TkEnd {
			now.tokens = append(now.tokens, t)
			continue
		}
		now.end = t.At
		now.statement = now.tokens
		for len(now.statement) > 1 && now.statement[0].Kind == api.TkName && fits(`":"`, now.statement[1]) {
			now.labels = append(now.labels, now.statement[0])
			now.statement = now.statement[2:]
		}
		out = append(out, now)
		now = lineRule{}
	}
	return out
}

// asmRule is an assembly by the rules of P8.1.
type asmRule struct {
	lines  []lineRule
	labels map[string]int
	seen   map[string]int // labels and directives, and how often they were there
	pages  int
	memory map[int]byte // the bytes that were put
	image  api.Image
}

func at(t api.Token, e api.Errno) api.Problem { return api.Problem{At: t.At, E: e} }

// assembleRule is P8.1 and P8.2.
func assembleRule(src string) (api.Image, map[string]int, api.Problem) {
	tokens, p := lexer.Tokens(src)
	if p.E == api.OK && strings.Count(src, "\n")+1 > 2000 {
		p = api.Problem{At: 0, E: api.ErrLimit}
	}
	a := &asmRule{lines: linesRule(src, tokens), labels: map[string]int{}, seen: map[string]int{}, pages: 1, memory: map[int]byte{}}
	for _, pass := range []func() api.Problem{a.syntax, a.places, a.values, a.segments} {
		if p.E == api.OK {
			p = pass()
		}
	}
	if p.E != api.OK {
		return api.Image{}, nil, p
	}
	return a.image, a.labels, p
}

// syntax is the second rule of P8.1.
func (a *asmRule) syntax() api.Problem {
	for _, l := range a.lines {
		left := lineGrammar
		for k, t := range l.tokens {
			next := behind(left, t)
			first := k == 2*len(l.labels)
			_, isOp := operandTable[t.S]
			isDirective := slices.Contains(strings.Fields(".pages .entry .org .word .text .space .disk"), t.S)
			switch {
			case first && t.Kind == api.TkName && !isOp && !isDirective:
				return at(t, api.ErrOp)
			case next == nil && t.Kind == api.TkName && behind(left, api.Token{Kind: api.TkName, S: "r0"}) != nil:
				return at(t, api.ErrRegister)
			case next == nil:
				return at(t, api.ErrSyntax)
			case k < 2*len(l.labels) && k%2 == 0:
				a.seen[t.S+":"]++
				a.seen["labels"]++
				if a.seen[t.S+":"] > 1 {
					return at(t, api.ErrAgain)
				}
				if a.seen["labels"] > 256 {
					return at(t, api.ErrLimit)
				}
			case first && (t.S == ".pages" || t.S == ".entry"):
				a.seen[t.S]++
				if a.seen[t.S] > 1 {
					return at(t, api.ErrAgain)
				}
			case k > 0 && k == 2*len(l.labels)+1 && l.tokens[k-1].S == ".pages":
				if t.N < 1 || t.N > 64 {
					return at(t, api.ErrRange)
				}
				a.pages = t.N
			}
			left = next
		}
		if !empty(left) {
			return api.Problem{At: l.end, E: api.ErrSyntax}
		}
	}
	return api.Problem{}
}

// groups divides the operands of a statement.
func groups(statement []api.Token) [][]api.Token {
	out := [][]api.Token{nil}
	for _, t := range statement[1:] {
		if t.Kind == api.TkSign && strings.Contains(",()", t.S) {
			out = append(out, nil)
		} else {
			out[len(out)-1] = append(out[len(out)-1], t)
		}
	}
	return out
}

// valueOf returns what a value is; false at a label that is not there.
func (a *asmRule) valueOf(l []api.Token) (int, bool) {
	sum, sign := 0, 1
	for _, t := range l {
		switch t.Kind {
		case api.TkNumber:
			sum += sign * t.N
		case api.TkName:
			place, ok := a.labels[t.S]
			if !ok {
				return 0, false
			}
			sum += place
		case api.TkSign:
			sign = map[string]int{"+": 1, "-": -1}[t.S]
		}
	}
	return sum, true
}

// needs returns how many bytes a statement needs, whether it puts them, and whether they must be words.
func needs(statement []api.Token) (bytes int, put, words bool) {
	switch statement[0].S {
	case ".pages", ".entry", ".org", ".disk":
		return 0, false, false
	case ".word":
		return 4 * len(groups(statement)), true, true
	case ".text":
		return len(statement[1].S), true, false
	case ".space":
		return statement[1].N, false, false
	}
	return 4, true, true
}

// places is the third rule of P8.1; bytes of words are put as 0, since their values are not known yet.
func (a *asmRule) places() api.Problem {
	place, size := 0, a.pages*128
	for k := range a.lines {
		l := &a.lines[k]
		for _, t := range l.labels {
			a.labels[t.S] = place
		}
		if len(l.statement) == 0 {
			continue
		}
		first := l.statement[0]
		switch first.S {
		case ".org":
			v, ok := a.valueOf(l.statement[1:])
			if !ok {
				return at(l.statement[1], api.ErrLabel)
			}
			if v < 0 || v > size {
				return at(first, api.ErrPlace)
			}
			place = v
		case ".disk":
			if !a.sector(l.statement[1].S) {
				return at(l.statement[1], api.ErrRange)
			}
		}
		bytes, put, words := needs(l.statement)
		if words && place%4 != 0 || bytes > size || place+bytes > size {
			return at(first, api.ErrPlace)
		}
		for k := place; put && k < place+bytes; k++ {
			if _, ok := a.memory[k]; ok {
				return at(first, api.ErrPlace)
			}
			a.memory[k] = 0
			if !words {
				a.memory[k] = l.statement[1].S[k-place]
			}
		}
		l.place = place
		place += bytes
	}
	return api.Problem{}
}

func (a *asmRule) sector(text string) bool {
	if len(text) > 128 || len(a.image.Disk) >= 64 {
		return false
	}
	a.image.Disk = append(a.image.Disk, api.Page([]byte(text+strings.Repeat("\x00", 128-len(text)))))
	return true
}

// values is the fourth rule of P8.1.
func (a *asmRule) values() api.Problem {
	a.image.Pages = a.pages
	for _, l := range a.lines {
		if len(l.statement) == 0 {
			continue
		}
		name := l.statement[0].S
		row, isOp := operandTable[name]
		ins := api.Ins{Op: isa.Find(name)}
		for k, g := range groups(l.statement) {
			switch {
			case name == ".entry":
				row.fields = []string{"entry"}
			case name == ".word":
				row.fields = append(row.fields, "word")
			case !isOp:
				continue
			}
			place := l.place
			if name == ".word" {
				place += 4 * k
			}
			if k < len(row.fields) {
				if e := a.field(row.fields[k], g, place, &ins); e != api.OK {
					return at(g[0], e)
				}
			}
		}
		if isOp {
			w, _ := isa.Encode(ins)
			a.putRule(l.place, int(w))
		}
	}
	return api.Problem{}
}

// field gives a field what it is, that of an instruction or a directive; place is that of the word.
func (a *asmRule) field(field string, l []api.Token, place int, ins *api.Ins) api.Errno {
	switch field {
	case "A":
		ins.A = registerOf(l[0].S)
		return api.OK
	case "B":
		ins.B = registerOf(l[0].S)
		return api.OK
	case "C":
		ins.C = registerOf(l[0].S)
		return api.OK
	}
	v, ok := a.valueOf(l)
	if !ok {
		return api.ErrLabel
	}
	right := false
	switch field {
	case "Imm":
		right = -131072 <= v && v <= 131071
		ins.Imm = v
	case "target":
		v -= place
		right = v%4 == 0 && -131072 <= v/4 && v/4 <= 131071
		ins.Imm = v / 4
	case "word":
		right = -2147483648 <= v && v <= 4294967295
		a.putRule(place, v)
	case "entry":
		right = v%4 == 0 && 0 <= v && v < 128*a.pages
		a.image.Entry = v
	}
	if !right {
		return api.ErrRange
	}
	return api.OK
}

// putRule puts a word.
func (a *asmRule) putRule(place, v int) {
	for k := range 4 {
		a.memory[place+k] = byte(uint32(v) >> (8 * k) % 256)
	}
}

// segments is the fifth rule of P8.1.
func (a *asmRule) segments() api.Problem {
	end := -1
	for _, at := range slices.Sorted(maps.Keys(a.memory)) {
		if at != end {
			a.image.Segments = append(a.image.Segments, api.Segment{At: at})
		}
		s := &a.image.Segments[len(a.image.Segments)-1]
		s.Data += string([]byte{a.memory[at]})
		end = at + 1
	}
	if len(a.image.Segments) > 64 {
		return api.Problem{At: 0, E: api.ErrLimit}
	}
	return api.Problem{}
}

// instructionRule is P8.3.
func instructionRule(w, at uint32) string {
	i, ok := isa.Decode(w)
	if !ok {
		return fmt.Sprintf(".word %d", w)
	}
	row := operandTable[isa.Name(i.Op)]
	values := map[string]int{"A": i.A, "B": i.B, "C": i.C, "Imm": i.Imm, "target": int(at) + 4*i.Imm}
	out, fields := isa.Name(i.Op), row.fields
	if len(fields) > 0 {
		out += " "
	}
	for _, word := range strings.Fields(row.operands) {
		switch word {
		case "register":
			out += fmt.Sprintf("r%d", values[fields[0]])
			fields = fields[1:]
		case "value":
			out += fmt.Sprint(values[fields[0]])
			fields = fields[1:]
		case `","`:
			out += ", "
		default:
			out += strings.Trim(word, `"`)
		}
	}
	return out
}

// rightRule is what P8.4 calls right, as an error.
func rightRule(i api.Image) api.Errno {
	if i.Pages < 1 || i.Pages > 64 || i.Entry%4 != 0 || i.Entry < 0 || i.Entry > 128*i.Pages-4 {
		return api.ErrRange
	}
	if len(i.Segments) > 64 || len(i.Disk) > 64 {
		return api.ErrLimit
	}
	var taken [64 * 128]bool
	last := -1
	for _, s := range i.Segments {
		if s.Data == "" || s.At < 0 || s.At >= 128*i.Pages || len(s.Data) > 128*i.Pages || s.At+len(s.Data) > 128*i.Pages || s.At <= last {
			return api.ErrForm
		}
		for k := range len(s.Data) {
			if taken[s.At+k] {
				return api.ErrForm
			}
			taken[s.At+k] = true
			last = s.At + k
		}
	}
	return api.OK
}

// disassembleRule is P8.4.
func disassembleRule(i api.Image) (string, api.Errno) {
	if e := rightRule(i); e != api.OK {
		return "", e
	}
	text := func(name, data string) string {
		out, _ := lexer.Print([]api.Token{{Kind: api.TkName, S: name}, {Kind: api.TkText, S: data}, {Kind: api.TkEnd}})
		return out
	}
	out := fmt.Sprintf(".pages %d\n.entry %d\n", i.Pages, i.Entry)
	for _, s := range i.Segments {
		out += fmt.Sprintf(".org %d\n", s.At)
		at, data := s.At, s.Data
		for ; at%4 != 0 && data != ""; at, data = at+1, data[1:] {
			out += text(".text", data[:1])
		}
		for ; len(data) >= 4; at, data = at+4, data[4:] {
			w := uint32(data[0]) + 256*uint32(data[1]) + 65536*uint32(data[2]) + 16777216*uint32(data[3])
			out += instructionRule(w, uint32(at)) + "\n"
		}
		for _, b := range []byte(data) {
			out += text(".text", string([]byte{b}))
		}
	}
	for _, page := range i.Disk {
		out += text(".disk", string(page[:]))
	}
	if len(out) > 16384 || len(strings.Split(out, "\n")) > 2000 {
		return "", api.ErrLimit
	}
	return out, api.OK
}

func sameImage(a, b api.Image) bool {
	return a.Entry == b.Entry && a.Pages == b.Pages && slices.Equal(a.Segments, b.Segments) && slices.Equal(a.Disk, b.Disk)
}

// memoryOf returns the memory with which a machine of an image begins.
func memoryOf(i api.Image) string {
	out := make([]byte, 128*i.Pages)
	for _, s := range i.Segments {
		copy(out[s.At:], s.Data)
	}
	return string(out)
}

// checkAssemble checks P8.1 and P8.2 for a source, and returns what Assemble returned.
func checkAssemble(t *testing.T, src string) (api.Image, api.Problem) {
	t.Helper()
	i, p := Assemble(src)
	want, labels, q := assembleRule(src)
	if !sameImage(i, want) || p != q {
		t.Fatalf("P8.1: Assemble(%s) = %v, %v, want %v, %v", shown(src), i, p, want, q)
	}
	l, p := Labels(src)
	if !maps.Equal(l, labels) || (l == nil) != (labels == nil) || p != q {
		t.Fatalf("P8.2: Labels(%s) = %v, %v, want %v, %v", shown(src), l, p, labels, q)
	}
	return i, q
}

// checkDisassemble checks P8.4, and P8.5, for an image, and returns what Disassemble returned.
func checkDisassemble(t *testing.T, i api.Image) (string, api.Errno) {
	t.Helper()
	segments, disk := slices.Clone(i.Segments), slices.Clone(i.Disk)
	src, e := Disassemble(i)
	want, q := disassembleRule(i)
	if src != want || e != q {
		t.Fatalf("P8.4: Disassemble(%+v) = %s, %d, want %s, %d", i, shown(src), e, shown(want), q)
	}
	if !slices.Equal(segments, i.Segments) || !slices.Equal(disk, i.Disk) {
		t.Fatal("P8.4: Disassemble changes its argument")
	}
	if e != api.OK {
		return src, e
	}
	again, p := Assemble(src)
	if p != (api.Problem{}) || again.Entry != i.Entry || again.Pages != i.Pages || memoryOf(again) != memoryOf(i) || !slices.Equal(again.Disk, i.Disk) {
		t.Fatalf("P8.5: Assemble of Disassemble(%+v) = %+v, %v", i, again, p)
	}
	return src, e
}

// shown returns a source as an error of a test shows it.
func shown(src string) string {
	if len(src) > 2000 {
		return fmt.Sprintf("%q .. (%d bytes)", src[:2000], len(src))
	}
	return fmt.Sprintf("%q", src)
}
