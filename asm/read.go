package asm

import (
	"slices"

	"simulacrum/api"
	"simulacrum/isa"
)

// Kinds of statements; a label is one of its own, with its place among the others.
const (
	isLabel = iota
	isPages
	isEntry
	isOrg
	isWord
	isText
	isSpace
	isDisk
	isInstruction
)

// statement is what stands in a line.
type statement struct {
	kind    int
	at      int       // the offset of its first token
	operand api.Token // the name of a label, or the number or text of a directive
	ins     api.Ins   // of an instruction, but for Imm
	values  []value
	place   int // where its bytes are
}

// value is a number, or the place of a label and a number.
type value struct {
	at     int    // the offset of its first token
	label  string // empty if it has none
	number int
}

// reader reads the statements of a source.
type reader struct {
	tokens []api.Token       // those that are still to be read; the last one is a line end
	rest   map[string]func() // what reads the rest of a statement, by the name with which it begins
	labels map[string]bool
	now    statement // the one that is being read
	done   []statement
	pages  int
}

// read returns the statements of a source of a length, and its number of pages.
func read(tokens []api.Token, length int) ([]statement, int) {
	r := reader{
		tokens: append(tokens, api.Token{Kind: api.TkEnd, At: length}),
		labels: map[string]bool{},
		pages:  1,
	}
	r.rest = r.statements()
	if r.lines() > api.MaxLines {
		fail(0, api.ErrLimit)
	}
	for len(r.tokens) > 0 {
		r.line()
	}
	return r.done, r.pages
}

func (r *reader) lines() int {
	n := 0
	for _, t := range r.tokens {
		if t.Kind == api.TkEnd {
			n++
		}
	}
	return n
}

// statements returns what reads the rest of each statement.
func (r *reader) statements() map[string]func() {
	out := map[string]func(){
		".pages": r.readPages,
		".entry": r.readEntry,
		".org":   r.readOrg,
		".word":  r.readWord,
		".text":  r.readText,
		".space": r.readSpace,
		".disk":  r.readDisk,
	}
	for op := range api.OpHalt + 1 {
		if isa.Form(op) != 0 {
			out[isa.Name(op)] = func() { r.readInstruction(op) }
		}
	}
	return out
}

func (r *reader) line() {
	for r.tokens[0].Kind == api.TkName && isSign(r.tokens[1], ":") {
		r.readLabel()
	}
	if r.tokens[0].Kind != api.TkEnd {
		r.readStatement()
	}
	r.take(api.TkEnd)
}

func (r *reader) readLabel() {
	name := r.take(api.TkName)
	if r.labels[name.S] {
		fail(name.At, api.ErrAgain)
	}
	if len(r.labels) == api.MaxLabels {
		fail(name.At, api.ErrLimit)
	}
	r.labels[name.S] = true
	r.done = append(r.done, statement{kind: isLabel, at: name.At, operand: name})
	r.sign(":")
}

func (r *reader) readStatement() {
	name := r.take(api.TkName)
	rest, ok := r.rest[name.S]
	if !ok {
		fail(name.At, api.ErrOp)
	}
	r.now = statement{at: name.At}
	rest()
	r.done = append(r.done, r.now)
}

func (r *reader) readPages() {
	r.once(isPages)
	n := r.take(api.TkNumber)
	if n.N < 1 || n.N > api.MaxPages {
		fail(n.At, api.ErrRange)
	}
	r.pages = n.N
}

func (r *reader) readEntry() {
	r.once(isEntry)
	r.value()
}

func (r *reader) readOrg() {
	r.now.kind = isOrg
	r.value()
}

func (r *reader) readWord() {
	r.now.kind = isWord
	r.value()
	for r.skip(",") {
		r.value()
	}
}

func (r *reader) readText() {
	r.now.kind = isText
	r.now.operand = r.take(api.TkText)
}

func (r *reader) readSpace() {
	r.now.kind = isSpace
	r.now.operand = r.take(api.TkNumber)
}

func (r *reader) readDisk() {
	r.now.kind = isDisk
	r.now.operand = r.take(api.TkText)
}

func (r *reader) readInstruction(op int) {
	r.now.kind = isInstruction
	r.now.ins.Op = op
	parts := map[rune]func(){'A': r.readA, 'B': r.readB, 'C': r.readC, 'V': r.value}
	for _, part := range operands(op) {
		if read, ok := parts[part]; ok {
			read()
		} else {
			r.sign(string(part))
		}
	}
}

func (r *reader) readA() { r.now.ins.A = r.register() }

func (r *reader) readB() { r.now.ins.B = r.register() }

func (r *reader) readC() { r.now.ins.C = r.register() }

func (r *reader) register() int {
	name := r.take(api.TkName)
	n := 0
	for n < api.Regs && name.S != register(n) {
		n++
	}
	if n == api.Regs {
		fail(name.At, api.ErrRegister)
	}
	return n
}

// value reads a value of the statement.
func (r *reader) value() {
	v := value{at: r.tokens[0].At}
	switch {
	case r.tokens[0].Kind == api.TkName:
		v.label = r.take(api.TkName).S
		v.number = r.added()
	case r.skip("-"):
		v.number = -r.take(api.TkNumber).N
	default:
		v.number = r.take(api.TkNumber).N
	}
	r.now.values = append(r.now.values, v)
}

// added reads what is added to a label, if something is.
func (r *reader) added() int {
	switch {
	case r.skip("+"):
		return r.take(api.TkNumber).N
	case r.skip("-"):
		return -r.take(api.TkNumber).N
	}
	return 0
}

// once gives the statement its kind, of which there must be no other one.
func (r *reader) once(kind int) {
	if slices.ContainsFunc(r.done, func(s statement) bool { return s.kind == kind }) {
		fail(r.now.at, api.ErrAgain)
	}
	r.now.kind = kind
}

// take reads a token, which must be of a kind.
func (r *reader) take(kind int) api.Token {
	t := r.tokens[0]
	if t.Kind != kind {
		fail(t.At, api.ErrSyntax)
	}
	r.tokens = r.tokens[1:]
	return t
}

// sign reads a sign, which must be there.
func (r *reader) sign(s string) {
	if !r.skip(s) {
		fail(r.tokens[0].At, api.ErrSyntax)
	}
}

// skip reads a sign if it is there, and reports whether it was.
func (r *reader) skip(s string) bool {
	if !isSign(r.tokens[0], s) {
		return false
	}
	r.tokens = r.tokens[1:]
	return true
}

func isSign(t api.Token, s string) bool { return t.Kind == api.TkSign && t.S == s }
