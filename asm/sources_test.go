package asm

import (
	"fmt"
	"maps"
	"math/rand"
	"slices"
	"strings"
	"testing"

	"simulacrum/api"
	"simulacrum/isa"
	"simulacrum/lexer"
)

// writer writes sources that are mostly right.
type writer struct {
	*rand.Rand
	ops    []string
	labels []string
	place  int
	lines  []string
}

func newWriter(seed int64) *writer {
	return &writer{Rand: rand.New(rand.NewSource(seed)), ops: slices.Sorted(maps.Keys(operandTable))}
}

func (w *writer) pick(l ...string) string { return l[w.Intn(len(l))] }

// value returns a value; the labels of the source are those from a on.
func (w *writer) value() string {
	label := w.pick(w.labels...)
	switch w.Intn(12) {
	case 0, 1, 2:
		return fmt.Sprint(4 * w.Intn(40))
	case 3:
		return fmt.Sprint(w.Intn(300))
	case 4:
		return fmt.Sprintf("-%d", w.Intn(100))
	case 5:
		return w.pick("0x10", "007", "131071", "- 131072", "-0", "4")
	case 6, 7:
		return fmt.Sprintf("%s%s%d", label, w.pick("+", " + ", "-"), 4*w.Intn(8))
	case 8:
		return fmt.Sprintf("%s-%d", label, w.Intn(50))
	}
	return label
}

func (w *writer) instruction() string {
	op := w.pick(w.ops...)
	out := op
	for _, word := range strings.Fields(operandTable[op].operands) {
		switch word {
		case "register":
			out += fmt.Sprintf(" r%d", w.Intn(16))
		case "value":
			out += " " + w.value()
		default:
			out += strings.Trim(word, `"`)
		}
	}
	return out
}

func (w *writer) text(most int) string {
	out := make([]byte, w.Intn(most+1))
	w.Read(out)
	src, _ := lexer.Print([]api.Token{{Kind: api.TkText, S: string(out)}})
	return src
}

// statement returns a statement, and goes on to the place behind it.
func (w *writer) statement() string {
	switch w.Intn(14) {
	case 0:
		n := 4 * w.Intn(4)
		w.place += n
		return fmt.Sprintf(".space %d", n)
	case 1:
		w.place += 4 * w.Intn(5)
		return fmt.Sprintf(".org %d", w.place)
	case 2:
		return ".disk " + w.text(128)
	case 3:
		text := w.text(12)
		l, _ := lexer.Tokens(text)
		n := len(l[0].S)
		w.place += (n + 3) / 4 * 4
		return fmt.Sprintf(".text %s\n.space %d", text, (n+3)/4*4-n)
	case 4, 5:
		values := []string{w.value()}
		for w.Intn(2) == 0 {
			values = append(values, w.value())
		}
		w.place += 4 * len(values)
		return ".word " + strings.Join(values, ",")
	case 6:
		return ""
	}
	w.place += 4
	return w.instruction()
}

// source returns a source of at most so many lines.
func (w *writer) source(most int) string {
	w.labels = []string{"a", "b", "c", "add", ".word", "_x.9"}[:1+w.Intn(6)]
	w.place, w.lines = 0, nil
	for range w.Intn(most + 1) {
		w.lines = append(w.lines, w.statement())
	}
	for _, l := range w.labels {
		w.insert(l+":", true)
	}
	for range w.Intn(3) {
		w.insert(w.pick(fmt.Sprintf(".pages %d", 1+w.Intn(4)), ".entry "+w.value(), "; a comment", "\t;", "", ".pages 64", ".entry 0"), false)
	}
	return strings.Join(w.lines, w.pick("\n", " \n", "\r\n", "; \xff$\n"))
}

// insert puts a line somewhere, or before something in its line.
func (w *writer) insert(line string, joined bool) {
	k := w.Intn(len(w.lines) + 1)
	if joined && k < len(w.lines) && w.Intn(2) == 0 {
		w.lines[k] = line + w.lines[k]
		return
	}
	w.lines = slices.Insert(w.lines, k, line)
}

// changed returns a source with some of its tokens changed.
func (w *writer) changed(src string) string {
	for range 1 + w.Intn(3) {
		l, p := lexer.Tokens(src)
		if p.E != api.OK || len(l) == 0 {
			return src
		}
		k := w.Intn(len(l))
		if w.Intn(3) == 0 {
			src = src[:l[k].At] + w.line() + src[l[k].At:]
			continue
		}
		from, to := l[k].At, len(src)
		if k+1 < len(l) {
			to = l[k+1].At
		}
		src = src[:from] + w.replacement(src[from:to]) + src[to:]
	}
	return src
}

func (w *writer) replacement(token string) string {
	switch w.Intn(10) {
	case 0, 1:
		return ""
	case 2:
		return token + " " + token
	case 3:
		return token + w.token()
	}
	return w.token()
}

// line returns a line that, among the others, may be wrong, with the line ends around it.
func (w *writer) line() string {
	return "\n" + w.pick(".org 0", ".org 4", ".org 6", ".org a", ".org b - 4", ".org 500", ".org 512", ".org -4", ".space 1", ".space 100", ".space 8192", ".text \"ab\"", ".word 1, 2", "halt", "addi r1, r2, c", ".pages 1", ".entry a", ".disk \"\"", "a:", "c:") + "\n"
}

func (w *writer) token() string {
	return " " + w.pick("a", "b", "nowhere", "foo", "add", "halt", "lw", "jal", "flush", "r1", "r15", "r16", "r01", "R1", "r", "r0x1", ".pages", ".entry", ".org", ".word", ".text", ".space", ".disk", ".foo",
		"0", "1", "2", "3", "4", "64", "65", "127", "128", "129", "131071", "131072", "131073", "524284", "524288", "2147483648", "2147483649", "4294967295", `""`, `"a"`, `"abc"`, `"`+strings.Repeat("z", 128)+`"`, `"`+strings.Repeat("z", 129)+`"`,
		",", ":", "(", ")", "+", "-", "*", "[", "=", "\n", "\n", "a:", "b:", ".pages 2", ".entry 4", ".entry a", ".org 4", ".org a", ".org 128", ".org 129", ".space 4", ".space 1", "$", "12b") + " "
}

func TestAnySources(t *testing.T) {
	w := newWriter(81)
	good, found := 0, map[api.Errno]int{}
	for range 6000 {
		src := w.source(12)
		if _, p := checkAssemble(t, src); p.E == api.OK {
			good++
		}
		_, p := checkAssemble(t, w.changed(src))
		found[p.E]++
	}
	if good < 1500 {
		t.Errorf("P8.1: only %d sources are right", good)
	}
	for _, e := range []api.Errno{api.ErrRange, api.ErrSyntax, api.ErrOp, api.ErrRegister, api.ErrLabel, api.ErrAgain, api.ErrPlace, api.ErrNumber, api.ErrChar} {
		if found[e] < 20 {
			t.Errorf("P8.1: only %d sources have the error %d", found[e], e)
		}
	}
}

// anyImage returns an image that is right, or nearly so.
func (w *writer) anyImage() api.Image {
	i := api.Image{Pages: 1 + w.Intn(3)}
	i.Entry = 4 * w.Intn(32*i.Pages)
	at := w.Intn(8)
	for range w.Intn(6) {
		data := make([]byte, 1+w.Intn(20))
		w.Read(data)
		if w.Intn(2) == 0 {
			data = w.words()
		}
		i.Segments = append(i.Segments, api.Segment{At: at, Data: string(data)})
		at += len(data) + w.Intn(3)*w.Intn(20)
	}
	for range w.Intn(3) {
		var page api.Page
		w.Read(page[w.Intn(128):])
		i.Disk = append(i.Disk, page)
	}
	return i
}

// words returns the bytes of some instructions, and perhaps of one that is none.
func (w *writer) words() []byte {
	var out []byte
	for range 1 + w.Intn(4) {
		word, e := isa.Encode(w.ins())
		if e != api.OK {
			panic("a wrong instruction")
		}
		word ^= []uint32{0, 0, 0, 1, 1 << 31}[w.Intn(5)]
		out = append(out, byte(word), byte(word>>8), byte(word>>16), byte(word>>24))
	}
	return out[:len(out)-w.Intn(2)*w.Intn(3)]
}

// ins returns a right instruction.
func (w *writer) ins() api.Ins {
	op := w.pick(w.ops...)
	i := api.Ins{Op: isa.Find(op)}
	for _, field := range operandTable[op].fields {
		switch field {
		case "A":
			i.A = w.Intn(16)
		case "B":
			i.B = w.Intn(16)
		case "C":
			i.C = w.Intn(16)
		default:
			i.Imm = []int{-131072, 131071, -1, 0, 1, w.Intn(262144) - 131072, w.Intn(20) - 10}[w.Intn(7)]
		}
	}
	return i
}

// spoiled returns an image with something changed.
func (w *writer) spoiled(i api.Image) api.Image {
	numbers := []int{-1 << 63, -4, -1, 0, 1, 2, 3, 4, 64, 65, 124, 127, 128, 1 << 32, 1<<63 - 1, 1<<63 - 4}
	n := numbers[w.Intn(len(numbers))]
	switch k := w.Intn(len(i.Segments) + 1); {
	case w.Intn(4) == 0:
		i.Pages = n
	case w.Intn(3) == 0:
		i.Entry = n
	case k == len(i.Segments):
		i.Segments = append(i.Segments, api.Segment{At: n, Data: "x"})
	case w.Intn(2) == 0:
		i.Segments[k].At += n
	case w.Intn(2) == 0:
		i.Segments[k].At = n
	default:
		i.Segments[k].Data = strings.Repeat("y", w.Intn(2)*w.Intn(300))
	}
	return i
}

func TestAnyImages(t *testing.T) {
	w := newWriter(82)
	found := map[api.Errno]int{}
	for range 6000 {
		i := w.anyImage()
		_, e := checkDisassemble(t, i)
		found[e]++
		_, e = checkDisassemble(t, w.spoiled(i))
		found[e]++
	}
	for _, e := range []api.Errno{api.OK, api.ErrRange, api.ErrForm} {
		if found[e] < 200 {
			t.Errorf("P8.4: only %d images have the error %d", found[e], e)
		}
	}
}
