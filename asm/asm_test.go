package asm

import (
	"fmt"
	"maps"
	"strings"
	"testing"

	"simulacrum/api"
	"simulacrum/isa"
)

// slashes returns a source whose line ends are written as slashes.
func slashes(src string) string { return strings.ReplaceAll(src, " / ", "\n") }

// bytesOf returns words as bytes of the memory.
func bytesOf(words ...uint32) string {
	var out []byte
	for _, w := range words {
		out = append(out, byte(w), byte(w>>8), byte(w>>16), byte(w>>24))
	}
	return string(out)
}

func wordOf(t *testing.T, i api.Ins) uint32 {
	t.Helper()
	w, e := isa.Encode(i)
	if e != api.OK {
		t.Fatalf("%+v is not right", i)
	}
	return w
}

// checkImage checks that a source has an image.
func checkImage(t *testing.T, src string, want api.Image) {
	t.Helper()
	if i, p := checkAssemble(t, src); !sameImage(i, want) || p != (api.Problem{}) {
		t.Errorf("P8.1: Assemble(%s) = %+v, %v, want %+v", shown(src), i, p, want)
	}
}

// checkGood checks that a source has no problem.
func checkGood(t *testing.T, src string) api.Image {
	t.Helper()
	i, p := checkAssemble(t, src)
	if p != (api.Problem{}) {
		t.Errorf("P8.1: Assemble(%s) has the problem %v", shown(src), p)
	}
	return i
}

// checkProblem checks that a source has a problem.
func checkProblem(t *testing.T, src string, at int, e api.Errno) {
	t.Helper()
	i, p := checkAssemble(t, src)
	if p != (api.Problem{At: at, E: e}) || !sameImage(i, api.Image{}) {
		t.Errorf("P8.1: Assemble(%s) = %+v, %v, want the problem %d at %d", shown(src), i, p, e, at)
	}
}

// TestExamples has the chapter's table.
func TestExamples(t *testing.T) {
	checkImage(t, slashes("loop: addi r1, r1, -1 / bne r1, r0, loop / halt"), api.Image{Pages: 1, Segments: []api.Segment{{Data: bytesOf(
		wordOf(t, api.Ins{Op: api.OpAddi, A: 1, B: 1, Imm: -1}), wordOf(t, api.Ins{Op: api.OpBne, A: 1, Imm: -1}), wordOf(t, api.Ins{Op: api.OpHalt}))}}})
	checkImage(t, slashes(".org 8 / a: .word a, a + 4, -1 / .entry a"), api.Image{Entry: 8, Pages: 1, Segments: []api.Segment{{At: 8, Data: bytesOf(8, 12, 4294967295)}}})
	checkProblem(t, "add r1, r2", 10, api.ErrSyntax)
	checkProblem(t, "foo r1", 0, api.ErrOp)
	checkProblem(t, "add r1, r16, r2", 8, api.ErrRegister)
	checkProblem(t, slashes("a: / a:"), 3, api.ErrAgain)
	checkProblem(t, "lw r1, b(r0)", 7, api.ErrLabel)
	checkProblem(t, "addi r1, r0, 131072", 13, api.ErrRange)
	checkProblem(t, slashes(".org 2 / halt"), 7, api.ErrPlace)
	checkProblem(t, "foo", 0, api.ErrOp)
}

// TestOperations has each operation with each of its operands.
func TestOperations(t *testing.T) {
	for _, x := range []struct {
		line string
		want api.Ins
	}{
		{"add r1, r2, r3", api.Ins{Op: api.OpAdd, A: 1, B: 2, C: 3}},
		{"sub r4, r5, r6", api.Ins{Op: api.OpSub, A: 4, B: 5, C: 6}},
		{"and r7, r8, r9", api.Ins{Op: api.OpAnd, A: 7, B: 8, C: 9}},
		{"or r10, r11, r12", api.Ins{Op: api.OpOr, A: 10, B: 11, C: 12}},
		{"xor r13, r14, r15", api.Ins{Op: api.OpXor, A: 13, B: 14, C: 15}},
		{"shl r0, r1, r0", api.Ins{Op: api.OpShl, B: 1}},
		{"shr r1, r0, r0", api.Ins{Op: api.OpShr, A: 1}},
		{"mul r0, r0, r1", api.Ins{Op: api.OpMul, C: 1}},
		{"div r1, r2, r3", api.Ins{Op: api.OpDiv, A: 1, B: 2, C: 3}},
		{"rem r1, r2, r3", api.Ins{Op: api.OpRem, A: 1, B: 2, C: 3}},
		{"slt r1, r2, r3", api.Ins{Op: api.OpSlt, A: 1, B: 2, C: 3}},
		{"sltu r1, r2, r3", api.Ins{Op: api.OpSltu, A: 1, B: 2, C: 3}},
		{"addi r1, r2, -5", api.Ins{Op: api.OpAddi, A: 1, B: 2, Imm: -5}},
		{"high r9, 131071", api.Ins{Op: api.OpHigh, A: 9, Imm: 131071}},
		{"lw r1, 8(r2)", api.Ins{Op: api.OpLw, A: 1, B: 2, Imm: 8}},
		{"sw r1, -8(r2)", api.Ins{Op: api.OpSw, A: 1, B: 2, Imm: -8}},
		{"lb r1, 1(r2)", api.Ins{Op: api.OpLb, A: 1, B: 2, Imm: 1}},
		{"sb r1, 0x11(r2)", api.Ins{Op: api.OpSb, A: 1, B: 2, Imm: 17}},
		{"swap r1, 0(r2)", api.Ins{Op: api.OpSwap, A: 1, B: 2}},
		{"beq r1, r2, 4", api.Ins{Op: api.OpBeq, A: 1, B: 2, Imm: 1}},
		{"bne r1, r2, -4", api.Ins{Op: api.OpBne, A: 1, B: 2, Imm: -1}},
		{"blt r1, r2, 0", api.Ins{Op: api.OpBlt, A: 1, B: 2}},
		{"bltu r1, r2, 80", api.Ins{Op: api.OpBltu, A: 1, B: 2, Imm: 20}},
		{"jal r3, 12", api.Ins{Op: api.OpJal, A: 3, Imm: 3}},
		{"jalr r1, 12(r2)", api.Ins{Op: api.OpJalr, A: 1, B: 2, Imm: 12}},
		{"ecall", api.Ins{Op: api.OpEcall}},
		{"eret", api.Ins{Op: api.OpEret}},
		{"csrr r1, 6", api.Ins{Op: api.OpCsrr, A: 1, Imm: 6}},
		{"csrw r1, 5", api.Ins{Op: api.OpCsrw, A: 1, Imm: 5}},
		{"flush r2", api.Ins{Op: api.OpFlush, B: 2}},
		{"wait", api.Ins{Op: api.OpWait}},
		{"in r1, 16", api.Ins{Op: api.OpIn, A: 1, Imm: 16}},
		{"out r1, 32", api.Ins{Op: api.OpOut, A: 1, Imm: 32}},
		{"halt", api.Ins{Op: api.OpHalt}},
	} {
		w := wordOf(t, x.want)
		checkImage(t, x.line, api.Image{Pages: 1, Segments: []api.Segment{{Data: bytesOf(w)}}})
		checkInstruction(t, w, 0)
		if got, want := Instruction(w, 0), strings.Replace(x.line, "0x11", "17", 1); got != want {
			t.Errorf("P8.3: Instruction(%d, 0) = %q, want %q", w, got, want)
		}
	}
}

func TestRegisters(t *testing.T) {
	for n := range 16 {
		checkImage(t, fmt.Sprintf("flush r%d", n), api.Image{Pages: 1, Segments: []api.Segment{{Data: bytesOf(wordOf(t, api.Ins{Op: api.OpFlush, B: n}))}}})
	}
	for _, name := range []string{"r16", "r00", "r01", "r015", "r", "R1", "r1x", "r1.", "rr1", "x", "_r1", "r99999999999999999999", "add", ".word"} {
		checkProblem(t, "flush "+name, 6, api.ErrRegister)
		checkProblem(t, "lw r1, 4("+name+")", 9, api.ErrRegister)
		checkProblem(t, "high "+name+" , ,", 5, api.ErrRegister)
	}
	for _, other := range []string{"1", `"r1"`, ",", "(", "-"} {
		checkProblem(t, "flush "+other, 6, api.ErrSyntax)
	}
}

// TestSyntax has what ends in the middle, goes on behind the end, or has something else where it is read.
func TestSyntax(t *testing.T) {
	lines := []string{".pages 1", ".entry 0", ".entry a + 4", ".org 4", ".org - 4", ".word 1 , a - 4 , - 5", `.text "x"`, ".space 4", `.disk "x"`, "add r1 , r2 , r3", "addi r1 , r2 , 5", "lw r1 , a + 4 ( r2 )", "beq r1 , r2 , a", "high r1 , - 5", "jal r1 , a - 4", "flush r1", "halt"}
	for _, line := range lines {
		words := strings.Fields(line)
		for k := range len(words) + 1 {
			begin, end := strings.Join(words[:k], " "), strings.Join(words[k:], " ")
			for _, other := range []string{"", "foo", "add", ".word", "r1", "5", `"x"`, ",", ":", "(", ")", "+", "-", "*", "a :", "; add", "\n"} {
				for _, src := range []string{begin + " " + other + " " + end, begin + " " + other, "a: " + begin + " " + other + " " + end, "halt\n" + begin + " " + other + "\n.org"} {
					checkAssemble(t, src)
				}
			}
		}
	}
	for _, x := range []struct {
		src string
		at  int
	}{
		{"halt halt", 5}, {"halt ,", 5}, {"halt 5", 5}, {"5", 0}, {":", 0}, {": halt", 0}, {"a: 5", 3}, {"a: :", 3}, {`"halt"`, 0}, {",\nfoo", 0},
		{"add", 3}, {"add\n", 3}, {"add  ; x", 8}, {"add  ; x\n", 8}, {"add r1", 6}, {"add r1,", 7}, {"add r1 r2", 7}, {"add r1, r2, 5", 12}, {"add r1, r2, r3, r4", 14}, {"add r1, r2, r3 halt", 15},
		{"lw r1, (r2)", 7}, {"lw r1, 4", 8}, {"lw r1, 4(r2", 11}, {"lw r1, 4 + 4(r2)", 9}, {"lw r1, a+(r2)", 9}, {"lw r1, r2", 9}, {"lw r1, 4(4)", 9}, {"lw r1, 4(r2))", 12},
		{"jal r1", 6}, {"jal r1, - a", 10}, {"jal r1, - - 4", 10}, {"jal r1, + 4", 8}, {"jal r1, a + -4", 12}, {"jal r1, a - a", 12}, {"jal r1, a + 4 + 4", 14}, {"jal r1, a b", 10},
		{".pages", 6}, {".pages -1", 7}, {".pages a", 7}, {".pages 1 1", 9}, {".entry", 6}, {".entry ,", 7}, {".org\nhalt", 4}, {".word", 5}, {".word 1,", 8}, {".word 1,,", 8}, {".word 1 2", 8}, {`.word "a"`, 6},
		{".text", 5}, {".text 5", 6}, {".text a", 6}, {`.text "a", "b"`, 9}, {".space", 6}, {".space a", 7}, {".space -4", 7}, {".disk", 5}, {".disk 5", 6}, {`.disk "a" "b"`, 10},
	} {
		checkProblem(t, x.src, x.at, api.ErrSyntax)
		checkProblem(t, "\t"+x.src, x.at+1, api.ErrSyntax)
	}
}

// TestOps has names that are no operation, and names that need none.
func TestOps(t *testing.T) {
	for _, name := range []string{"foo", "ADD", "Halt", ".pagess", ".", ".Word", "r1", "a", "addi1", "_", "word"} {
		checkProblem(t, name, 0, api.ErrOp)
		checkProblem(t, name+" 5 , (", 0, api.ErrOp)
		checkProblem(t, name+"\n:", 0, api.ErrOp)
		checkProblem(t, "halt\nb: c: "+name+" ;", 11, api.ErrOp)
		checkGood(t, name+":")
		checkGood(t, name+" :halt")
	}
	for name := range operandTable {
		checkImage(t, name+": wait\njal r0, "+name, api.Image{Pages: 1, Segments: []api.Segment{{Data: bytesOf(wordOf(t, api.Ins{Op: api.OpWait}), wordOf(t, api.Ins{Op: api.OpJal, Imm: -1}))}}})
	}
	for _, name := range []string{".pages", ".entry", ".org", ".word", ".text", ".space", ".disk"} {
		checkImage(t, name+": .entry "+name, api.Image{Pages: 1})
		checkImage(t, name+": "+name+"2: .entry "+name, api.Image{Pages: 1})
	}
	checkProblem(t, "a: a", 3, api.ErrOp)
	checkProblem(t, "a: a b:", 3, api.ErrOp)
	checkProblem(t, "halt a:", 5, api.ErrSyntax)
	checkProblem(t, "halt a", 5, api.ErrSyntax)
}

func TestLabels(t *testing.T) {
	src := "first: start: addi r1, r0, last\n\n mid: .text \"abcd\" ; mid2:\n.org 100\nhere:there: .org 40\nback: .space 3\nodd:\n.org 128\nlast:"
	want := map[string]int{"first": 0, "start": 0, "mid": 4, "here": 100, "there": 100, "back": 40, "odd": 43, "last": 128}
	if l, p := Labels(src); !maps.Equal(l, want) || p != (api.Problem{}) {
		t.Errorf("P8.2: Labels = %v, %v, want %v", l, p, want)
	}
	checkGood(t, src)
	for _, src := range []string{"", "halt", ";", "\n\n"} {
		if l, p := Labels(src); len(l) != 0 || l == nil || p != (api.Problem{}) {
			t.Errorf("P8.2: Labels(%q) = %v, %v", src, l, p)
		}
		checkGood(t, src)
	}
	for _, src := range []string{"a:\na:", "a: $", "a: foo", "a: .word b", "a: .pages 0", "a: .org 129", "a:" + manySegments(65)} {
		if l, p := Labels(src); l != nil || p.E == api.OK {
			t.Errorf("P8.2: Labels(%s) = %v, %v", shown(src), l, p)
		}
	}
	// A map that was returned is not kept.
	l, _ := Labels("a: b: halt")
	l["a"], l["c"] = 5, 6
	if again, _ := Labels("a: b: halt"); !maps.Equal(again, map[string]int{"a": 0, "b": 0}) {
		t.Errorf("P8.2: Labels = %v", again)
	}
}

// manyLabels returns a source of one line with so many labels.
func manyLabels(n int) string {
	var out strings.Builder
	for k := range n {
		fmt.Fprintf(&out, "l%d:", k)
	}
	return out.String()
}

// manySegments returns a source that puts so many runs of bytes.
func manySegments(n int) string {
	return ".pages 64\n" + strings.Repeat("halt\n.space 4\n", n)
}

func TestAgain(t *testing.T) {
	checkProblem(t, "a: b: a: foo", 6, api.ErrAgain)
	checkProblem(t, "a: halt\nb:\na: 5", 11, api.ErrAgain)
	checkProblem(t, "a: A: _a: a. : a0:\na:", 19, api.ErrAgain)
	checkProblem(t, ".pages 1\n.pages 1", 9, api.ErrAgain)
	checkProblem(t, ".pages 1\n.pages 65", 9, api.ErrAgain)
	checkProblem(t, ".pages 1\n.pages", 9, api.ErrAgain)
	checkProblem(t, ".entry 0\nx: .entry", 12, api.ErrAgain)
	checkProblem(t, ".entry 2\n.pages 1\n.entry 0", 18, api.ErrAgain)
	checkGood(t, ".entry 0\n.pages 1")
	checkGood(t, ".pages: .pages 1")
	checkGood(t, manyLabels(256))
	checkProblem(t, manyLabels(257), len(manyLabels(256)), api.ErrLimit)
	checkProblem(t, manyLabels(256)+"l0:", len(manyLabels(256)), api.ErrAgain)
	checkProblem(t, manyLabels(256)+"x", len(manyLabels(256)), api.ErrOp)
	checkProblem(t, manyLabels(256)+"\nx:foo", 1+len(manyLabels(256)), api.ErrLimit)
	checkProblem(t, "foo\n"+manyLabels(257), 0, api.ErrOp)
}

func TestPages(t *testing.T) {
	for _, n := range []int{1, 2, 63, 64} {
		checkImage(t, fmt.Sprintf(".pages %d", n), api.Image{Pages: n})
		size := 128 * n
		checkImage(t, fmt.Sprintf(".org %d\nhalt\n.entry %d\n.pages %d", size-4, size-4, n), api.Image{Entry: size - 4, Pages: n, Segments: []api.Segment{{At: size - 4, Data: bytesOf(wordOf(t, api.Ins{Op: api.OpHalt}))}}})
		checkProblem(t, fmt.Sprintf(".pages %02d\n.org %d\nhalt\n.org -1", n, size), 16+len(fmt.Sprint(size)), api.ErrPlace)
	}
	checkImage(t, "", api.Image{Pages: 1})
	for _, n := range []string{"0", "65", "4294967295", "0x0", "128"} {
		checkProblem(t, ".pages "+n, 7, api.ErrRange)
		checkProblem(t, ".pages "+n+" 5", 7, api.ErrRange)
		checkProblem(t, ".pages "+n+"\nfoo", 7, api.ErrRange)
		checkProblem(t, "halt 5\n.pages "+n, 5, api.ErrSyntax)
	}
}

func TestOrg(t *testing.T) {
	checkImage(t, ".org 128", api.Image{Pages: 1})
	checkImage(t, ".org -0\n.text \"a\"", api.Image{Pages: 1, Segments: []api.Segment{{Data: "a"}}})
	checkImage(t, ".org 5\na: .org a - 3\n.text \"a\"\n.org a+1\n.text \"b\"", api.Image{Pages: 1, Segments: []api.Segment{{At: 2, Data: "a"}, {At: 6, Data: "b"}}})
	checkImage(t, ".org 64\n.org 32\n.org 96\nhalt", api.Image{Pages: 1, Segments: []api.Segment{{At: 96, Data: bytesOf(wordOf(t, api.Ins{Op: api.OpHalt}))}}})
	for _, v := range []string{"129", "-1", "4294967295", "- 4294967295", "a+121", "a-9", "a - 4294967295", "a + 4294967295"} {
		checkProblem(t, ".org 8\na:\nb:.org "+v, 12, api.ErrPlace)
	}
	checkProblem(t, ".org b\nb:", 5, api.ErrLabel)
	checkProblem(t, ".org b + 4\nb:", 5, api.ErrLabel)
	checkProblem(t, "halt\n.org nowhere-4", 10, api.ErrLabel)
	checkProblem(t, ".org 2\nhalt\n.org b", 7, api.ErrPlace)
	checkProblem(t, ".org b\n.org 2\nhalt", 5, api.ErrLabel)
	// The values of others come later.
	checkProblem(t, "jal r0, nowhere\n.org 129", 16, api.ErrPlace)
	checkProblem(t, "jal r0, nowhere\n.org b", 21, api.ErrLabel)
}

func TestPlace(t *testing.T) {
	for _, org := range []int{1, 2, 3, 5, 126, 127} {
		begin := fmt.Sprintf(".org %d\na:", org)
		checkProblem(t, begin+"halt", len(begin), api.ErrPlace)
		checkProblem(t, begin+".word 1", len(begin), api.ErrPlace)
		checkGood(t, begin+`.text "a"`)
		checkGood(t, begin+".space 1")
		checkGood(t, begin+".entry 0")
		checkGood(t, begin+`.disk "abc"`)
	}
	for _, x := range []struct {
		org       int
		statement string
		good      bool
	}{
		{124, "halt", true}, {128, "halt", false}, {124, ".word 1", true}, {124, ".word 1, 2", false}, {120, ".word 1, 2", true}, {128, ".word 1", false},
		{127, `.text "a"`, true}, {127, `.text "ab"`, false}, {128, `.text ""`, true}, {128, `.text "a"`, false}, {0, `.text "` + strings.Repeat("a", 128) + `"`, true}, {0, `.text "` + strings.Repeat("a", 129) + `"`, false},
		{0, ".space 128", true}, {0, ".space 129", false}, {128, ".space 0", true}, {128, ".space 1", false}, {127, ".space 1", true}, {1, ".space 128", false}, {0, ".space 4294967295", false}, {128, ".space 4294967295", false},
	} {
		begin := fmt.Sprintf(".org %d\nl: ", x.org)
		if x.good {
			checkGood(t, begin+x.statement)
		} else {
			checkProblem(t, begin+x.statement+"\n.org b", len(begin), api.ErrPlace)
		}
	}
}

// TestOverlap has bytes that are put twice.
func TestOverlap(t *testing.T) {
	for _, second := range []string{"halt", ".word 5", ".word 5, 6, 7", `.text "x"`, `.text "xxxxx"`} {
		for _, first := range []string{"halt", ".word 5", ".word 5, 6", `.text "x"`, `.text "xxxxxxx"`} {
			for org := 40; org < 64; org++ {
				checkAssemble(t, fmt.Sprintf(".org 48\n%s\n.org %d\n%s", first, org, second))
			}
		}
		checkProblem(t, ".org 48\nwait\n.org 48\n"+second, 21, api.ErrPlace)
		checkGood(t, ".org 48\n.space 40\n.org 48\n"+second)
		checkGood(t, ".org 48\n"+second+"\n.org 48\n.space 40\nhalt")
		checkGood(t, ".org 48\n"+second+"\n.org 48\n.text \"\"")
	}
}

func TestText(t *testing.T) {
	checkImage(t, `.text "a\x00\xff\n" ; text`, api.Image{Pages: 1, Segments: []api.Segment{{Data: "a\x00\xff\n"}}})
	checkImage(t, ".text \"ab\"\n.text \"\"\n.text \"cd\"\nhalt", api.Image{Pages: 1, Segments: []api.Segment{{Data: "abcd" + bytesOf(3221225472)}}})
	checkImage(t, `.text ""`, api.Image{Pages: 1})
}

func TestDisk(t *testing.T) {
	full := strings.Repeat("z", 128)
	page := func(s string) api.Page { return api.Page([]byte(s + strings.Repeat("\x00", 128-len(s)))) }
	checkImage(t, ".disk \"\"\n.disk \"a\\x01\"\n.disk \""+full+"\"", api.Image{Pages: 1, Disk: []api.Page{page(""), page("a\x01"), page(full)}})
	checkProblem(t, ".disk \"a\"\n.disk \""+full+"z\"", 16, api.ErrRange)
	checkProblem(t, ".disk \""+full+"z\"\nhalt\n.org 3\nhalt", 6, api.ErrRange)
	checkProblem(t, ".org 129\n.disk \""+full+"z\"", 0, api.ErrPlace)
	many := strings.Repeat(".disk \"s\"\n", 64)
	if i := checkGood(t, many); len(i.Disk) != 64 {
		t.Errorf("P8.1: %d sectors", len(i.Disk))
	}
	checkProblem(t, many+"a: .disk \"\"", len(many)+9, api.ErrRange)
	checkProblem(t, many+"a: .disk \"\"\nfoo", len(many)+12, api.ErrOp)
}

// TestValues has the greatest and the least values, and those beyond them.
func TestValues(t *testing.T) {
	for _, x := range []struct {
		before     string
		good, long []string
	}{
		{"addi r1, r2, ", []string{"131071", "-131072", "0", "-0", "a", "z + 131063", "z - 131080", "nine + 131062"}, []string{"131072", "-131073", "4294967295", "- 4294967295", "z + 131064", "z - 131081", "z + 4294967295"}},
		{"high r1, ", []string{"131071", "-131072"}, []string{"131072", "-131073"}},
		{"csrr r1, ", []string{"131071", "-131072", "8", "9"}, []string{"131072", "-131073"}},
		{"csrw r1, ", []string{"131071", "-131072"}, []string{"131072", "-131073"}},
		{"in r1, ", []string{"131071", "-131072"}, []string{"131072", "-131073"}},
		{"out r1, ", []string{"131071", "-131072", "3"}, []string{"131072", "-131073"}},
		{"beq r1, r2, ", []string{"524300", "-524272", "0", "-4", "a", "z+4", "nine + 3"}, []string{"524304", "-524276", "1", "2", "3", "-1", "-2", "18", "nine", "4294967295", "- 4294967292", "z + 524296"}},
		{"bltu r1, r2, ", []string{"524300", "-524272"}, []string{"524304", "-524276", "nine + 1"}},
		{"jal r1, ", []string{"524300", "-524272", "16", "12"}, []string{"524304", "-524276", "17", "z - 2"}},
		{".word ", []string{"4294967295", "-2147483648", "z + 4294967287", "z - 2147483656", "-0", "1, 2, 3"}, []string{"-2147483649", "- 4294967295", "z + 4294967288", "z - 2147483657"}},
		{".word 5, ", []string{"nine, 4294967295"}, []string{"-2147483649, b", "z + 4294967295"}},
		{".entry ", []string{"0", "124", "z", "z + 116", "z - 8", "nine + 3"}, []string{"128", "-4", "2", "1", "125", "nine", "4294967292", "z - 12", "z + 120"}},
	} {
		begin := "a: .space 8\nz:.space 1\nnine:.space 7\n" + x.before
		for _, v := range x.good {
			checkGood(t, begin+v)
		}
		for _, v := range x.long {
			checkProblem(t, begin+v+"\njal r0, b\n", len(begin), api.ErrRange)
		}
		for _, v := range []string{"nowhere", "b + 4", "Z-1"} {
			checkProblem(t, begin+v, len(begin), api.ErrLabel)
		}
	}
	for _, op := range []string{"lw", "lb", "sw", "sb", "swap", "jalr"} {
		checkGood(t, op+" r1, 131071(r2)")
		checkGood(t, op+" r1, -131072(r2)")
		checkProblem(t, op+" r1 ,131072(r2)", len(op)+5, api.ErrRange)
		checkProblem(t, op+" r1 ,-131073(r2)", len(op)+5, api.ErrRange)
		checkProblem(t, op+" r1 ,b-3(r2)", len(op)+5, api.ErrLabel)
	}
}

// TestOrder has sources with several problems.
func TestOrder(t *testing.T) {
	lines := strings.Repeat("\n", 2000)
	checkGood(t, lines[1:])
	checkGood(t, lines[2:]+"halt ; the line 1999\n; 2000")
	checkProblem(t, lines, 0, api.ErrLimit)
	checkProblem(t, "foo"+lines, 0, api.ErrLimit)
	checkProblem(t, "halt 5"+lines+"12b", 2006, api.ErrNumber)
	checkProblem(t, strings.Repeat(" ", 16385), 16384, api.ErrLimit)
	checkGood(t, strings.Repeat(" ", 16384))
	for _, x := range []struct {
		src string
		at  int
		e   api.Errno
	}{
		{"foo\n$", 4, api.ErrChar},
		{"halt 5\nfoo", 5, api.ErrSyntax},
		{"foo\nhalt 5", 0, api.ErrOp},
		{"add r16, 5", 4, api.ErrRegister},
		{"add 5, r16", 4, api.ErrSyntax},
		{".org 129\n.pages 2\nfoo", 18, api.ErrOp},
		{".word b\n.org 1\nhalt", 15, api.ErrPlace},
		{".word b\n.entry 2", 6, api.ErrLabel},
		{".entry 2\n.word b", 7, api.ErrRange},
		{".word 5, 4294967295 , -2147483649, b", 22, api.ErrRange},
		{".entry b\n.disk \"" + strings.Repeat("z", 129) + "\"", 15, api.ErrRange},
		{manySegments(65) + ".entry b", len(manySegments(65)) + 7, api.ErrLabel},
		{manySegments(65) + ".entry 2", len(manySegments(65)) + 7, api.ErrRange},
		{manySegments(65), 0, api.ErrLimit},
	} {
		checkProblem(t, x.src, x.at, x.e)
	}
}

func TestSegments(t *testing.T) {
	if i := checkGood(t, manySegments(64)); len(i.Segments) != 64 {
		t.Errorf("P8.1: %d segments", len(i.Segments))
	}
	// What is put side by side is one run, in whatever order it was put.
	checkGood(t, manySegments(65)+".org 4\nhalt")
	checkImage(t, ".org 4\n.text \"bb\"\n.org 2\n.text \"aa\"\n.org 8\n.text \"d\"\n.org 6\n.text \"c\"", api.Image{Pages: 1, Segments: []api.Segment{{At: 2, Data: "aabbc"}, {At: 8, Data: "d"}}})
	checkImage(t, ".org 127\n.text \"z\"\n.org 0\n.text \"\\x00\"", api.Image{Pages: 1, Segments: []api.Segment{{Data: "\x00"}, {At: 127, Data: "z"}}})
	checkImage(t, ".text \""+strings.Repeat("a", 128)+"\"", api.Image{Pages: 1, Segments: []api.Segment{{Data: strings.Repeat("a", 128)}}})
}
