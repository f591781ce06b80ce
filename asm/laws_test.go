package asm

import (
	"fmt"
	"maps"
	"strings"
	"testing"

	"simulacrum/api"
	"simulacrum/isa"
	"simulacrum/lexer"
)

// TestInstructionAlone has P8.6.
func TestInstructionAlone(t *testing.T) {
	w := newWriter(86)
	for k := range 20000 {
		i := w.ins()
		word := wordOf(t, i)
		at := 4 * w.Intn(2060)
		if k < 4000 {
			at = 4 * (k % 4)
		}
		checkAlone(t, word, at)
	}
}

func checkAlone(t *testing.T, word uint32, at int) {
	t.Helper()
	src := fmt.Sprintf(".pages 64\n.org %d\n%s", at, Instruction(word, uint32(at)))
	i, p := Assemble(src)
	switch {
	case at > 8192-4:
		if p.E != api.ErrPlace {
			t.Fatalf("P8.6: Assemble(%q) has the problem %v", src, p)
		}
	case p != (api.Problem{}) || !sameImage(i, api.Image{Pages: 64, Segments: []api.Segment{{At: at, Data: bytesOf(word)}}}):
		t.Fatalf("P8.6: Assemble(%q) = %+v, %v, want the word %d", src, i, p, word)
	}
}

// numbered returns a source in which the numbers stand in place of all values with names.
func numbered(src string) string {
	tokens, _ := lexer.Tokens(src)
	a := &asmRule{lines: linesRule(src, tokens), labels: map[string]int{}, pages: 64, memory: map[int]byte{}}
	a.places()
	var out strings.Builder
	done := 0
	for _, l := range a.lines {
		if len(l.statement) == 0 {
			continue
		}
		for k, g := range groups(l.statement) {
			if len(g) == 0 || g[0].Kind != api.TkName || isRegister(l.statement[0].S, k) {
				continue
			}
			n, _ := a.valueOf(g)
			out.WriteString(src[done:g[0].At])
			fmt.Fprint(&out, n, " ")
			done = l.end
			for _, next := range l.tokens {
				if next.At > g[len(g)-1].At {
					done = next.At
					break
				}
			}
		}
	}
	return out.String() + src[done:]
}

// isRegister reports whether an operand is a register.
func isRegister(op string, k int) bool {
	row, ok := operandTable[op]
	return ok && k < len(row.fields) && strings.Contains("A B C", row.fields[k])
}

// spaced returns a source with other spaces, comments and empty lines.
func (w *writer) spaced(src string) string {
	tokens, _ := lexer.Tokens(src)
	var out strings.Builder
	for k, t := range tokens {
		if t.Kind == api.TkEnd {
			out.WriteString(w.pick("", " ", "\t; x: halt 12b \" $", ";", "\r", "\n", "; y\n\n \n"))
		} else if k > 0 {
			out.WriteString(w.pick(" ", "  ", "\t", "\r ", " \t "))
		}
		one, _ := lexer.Print([]api.Token{t})
		out.WriteString(one)
	}
	return out.String() + w.pick("", "\n", " ; z", "\n\n")
}

// TestSameImages has P8.7 and P8.8.
func TestSameImages(t *testing.T) {
	w := newWriter(87)
	good, labelled := 0, 0
	for range 4000 {
		src := w.source(14)
		i, p := Assemble(src)
		labels, _ := Labels(src)
		s := w.spaced(src)
		if j, q := Assemble(s); !sameImage(i, j) || p.E != q.E {
			t.Fatalf("P8.7: Assemble(%s) = %+v, %v, but Assemble(%s) = %+v, %v", shown(src), i, p, shown(s), j, q)
		}
		if l, _ := Labels(s); !maps.Equal(l, labels) {
			t.Fatalf("P8.7: Labels(%s) = %v, but Labels(%s) = %v", shown(src), labels, shown(s), l)
		}
		if p.E != api.OK {
			continue
		}
		good++
		n := numbered(src)
		if j, q := Assemble(n); !sameImage(i, j) || p != q {
			t.Fatalf("P8.7: Assemble(%s) = %+v, %v, but Assemble(%s) = %+v, %v", shown(src), i, p, shown(n), j, q)
		}
		if n != src {
			labelled++
		}
		checkPut(t, src, i)
	}
	if good < 1000 || labelled < 500 {
		t.Errorf("P8.7: %d sources are right, %d have labels in values", good, labelled)
	}
}

// checkPut checks P8.8: the segments have as many bytes as the statements put, and the memory has zeros beside them.
func checkPut(t *testing.T, src string, i api.Image) {
	t.Helper()
	tokens, _ := lexer.Tokens(src)
	put, had := 0, 0
	for _, l := range linesRule(src, tokens) {
		if len(l.statement) > 0 {
			if bytes, puts, _ := needs(l.statement); puts {
				put += bytes
			}
		}
	}
	memory := []byte(memoryOf(i))
	for _, s := range i.Segments {
		had += len(s.Data)
		clear(memory[s.At : s.At+len(s.Data)])
	}
	if put != had || strings.Trim(string(memory), "\x00") != "" {
		t.Fatalf("P8.8: Assemble(%s) has %d bytes in segments, and %d are put", shown(src), had, put)
	}
}

// TestWordsAgain has P8.5 for memories that are full of instructions, and of what is none.
func TestWordsAgain(t *testing.T) {
	w := newWriter(85)
	for range 60 {
		var words []uint32
		for range 1 + w.Intn(500) {
			words = append(words, wordOf(t, w.ins()))
		}
		words = append(words, w.Uint32(), 0, wordOf(t, api.Ins{Op: isa.Find(w.pick(w.ops...))}))
		if _, e := checkDisassemble(t, api.Image{Pages: 64, Entry: 8188, Segments: []api.Segment{{At: w.Intn(3) * w.Intn(1000), Data: bytesOf(words...)}}}); e != api.OK {
			t.Errorf("P8.5: %d words have the error %d", len(words), e)
		}
	}
}
