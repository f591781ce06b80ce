package asm

import (
	"math"
	"slices"

	"simulacrum/api"
	"simulacrum/isa"
)

// program is a source whose statements have their places and values.
type program struct {
	labels map[string]int
	next   int // the place
	memory []byte
	put    []bool // which bytes of the memory were put
	disk   []api.Page
	entry  int
}

// assembled returns the program of statements in so many pages.
func assembled(statements []statement, pages int) *program {
	size := pages * api.PageSize
	p := program{labels: map[string]int{}, memory: make([]byte, size), put: make([]bool, size)}
	for k := range statements {
		p.place(&statements[k])
	}
	for _, s := range statements {
		p.fill(s)
	}
	return &p
}

// place gives a statement its place.
func (p *program) place(s *statement) {
	s.place = p.next
	switch s.kind {
	case isLabel:
		p.labels[s.operand.S] = p.next
	case isOrg:
		p.next = p.origin(s)
	case isDisk:
		p.addSector(s.operand)
	default:
		p.reserve(s)
	}
}

// origin returns the value of an .org; at this moment there are only the labels before it.
func (p *program) origin(s *statement) int {
	n := p.number(s.values[0])
	if n < 0 || n > len(p.memory) {
		fail(s.at, api.ErrPlace)
	}
	return n
}

func (p *program) addSector(text api.Token) {
	if len(text.S) > api.PageSize || len(p.disk) == api.MaxSectors {
		fail(text.At, api.ErrRange)
	}
	var sector api.Page
	copy(sector[:], text.S)
	p.disk = append(p.disk, sector)
}

// reserve takes the bytes of a statement at the place.
func (p *program) reserve(s *statement) {
	n := s.size()
	ofWords := s.kind == isInstruction || s.kind == isWord
	if n > len(p.memory)-p.next || ofWords && p.next%wordSize != 0 {
		fail(s.at, api.ErrPlace)
	}
	if s.kind != isSpace {
		p.mark(s.at, p.put[p.next:p.next+n])
	}
	p.next += n
}

// mark notes that bytes are put by the statement at an offset of the source.
func (p *program) mark(at int, put []bool) {
	if slices.Contains(put, true) {
		fail(at, api.ErrPlace)
	}
	for k := range put {
		put[k] = true
	}
}

// size returns how many bytes a statement adds to the place.
func (s *statement) size() int {
	switch s.kind {
	case isInstruction:
		return wordSize
	case isWord:
		return wordSize * len(s.values)
	case isText:
		return len(s.operand.S)
	case isSpace:
		return s.operand.N
	}
	return 0
}

// fill computes the values of a statement, and puts its bytes.
func (p *program) fill(s statement) {
	switch s.kind {
	case isEntry:
		p.entry = p.address(s.values[0])
	case isWord:
		p.putWords(s.place, p.words(s.values)...)
	case isText:
		copy(p.memory[s.place:], s.operand.S)
	case isInstruction:
		p.putWords(s.place, p.instruction(s))
	}
}

// putWords puts words one after the other, the least byte of each first.
func (p *program) putWords(at int, words ...uint32) {
	for _, w := range words {
		for k := range wordSize {
			p.memory[at+k] = byte(w >> (8 * k))
		}
		at += wordSize
	}
}

// number returns what a value is.
func (p *program) number(v value) int {
	if v.label == "" {
		return v.number
	}
	place, ok := p.labels[v.label]
	if !ok {
		fail(v.at, api.ErrLabel)
	}
	return place + v.number
}

// address returns a value that must be the address of a word of the memory.
func (p *program) address(v value) int {
	n := p.number(v)
	if n < 0 || n >= len(p.memory) || n%wordSize != 0 {
		fail(v.at, api.ErrRange)
	}
	return n
}

func (p *program) words(l []value) []uint32 {
	var out []uint32
	for _, v := range l {
		n := p.number(v)
		if n < math.MinInt32 || n > math.MaxUint32 {
			fail(v.at, api.ErrRange)
		}
		out = append(out, uint32(n))
	}
	return out
}

// instruction returns the word of an instruction.
func (p *program) instruction(s statement) uint32 {
	i := s.ins
	for _, v := range s.values {
		i.Imm = p.number(v)
		if isRelative(i.Op) {
			i.Imm = distance(i.Imm-s.place, v)
		}
		if !isa.Right(i) {
			fail(v.at, api.ErrRange)
		}
	}
	w, _ := isa.Encode(i)
	return w
}

// distance returns how many words so many bytes are, which a value says.
func distance(bytes int, v value) int {
	if bytes%wordSize != 0 {
		fail(v.at, api.ErrRange)
	}
	return bytes / wordSize
}

func (p *program) image() api.Image {
	segments := p.segments()
	if len(segments) > api.MaxSegments {
		fail(0, api.ErrLimit)
	}
	return api.Image{Entry: p.entry, Pages: len(p.memory) / api.PageSize, Segments: segments, Disk: p.disk}
}

// segments returns the longest runs of bytes that were put.
func (p *program) segments() []api.Segment {
	var out []api.Segment
	for at := 0; at < len(p.put); at++ {
		end := at
		for end < len(p.put) && p.put[end] {
			end++
		}
		if end > at {
			out = append(out, api.Segment{At: at, Data: string(p.memory[at:end])})
			at = end
		}
	}
	return out
}
