package asm

import (
	"math/rand"
	"slices"
	"strings"
	"testing"

	"simulacrum/api"
)

// checkInstruction checks P8.3.
func checkInstruction(t *testing.T, w, at uint32) {
	t.Helper()
	if got, want := Instruction(w, at), instructionRule(w, at); got != want {
		t.Fatalf("P8.3: Instruction(%d, %d) = %q, want %q", w, at, got, want)
	}
}

func TestInstruction(t *testing.T) {
	back := wordOf(t, api.Ins{Op: api.OpBeq, A: 1, B: 1, Imm: -2})
	far := wordOf(t, api.Ins{Op: api.OpJal, A: 15, Imm: 131071})
	for _, x := range []struct {
		w, at uint32
		want  string
	}{
		{back, 8, "beq r1, r1, 0"},
		{back, 4, "beq r1, r1, -4"},
		{back, 0, "beq r1, r1, -8"},
		{back, 4294967295, "beq r1, r1, 4294967287"},
		{far, 4294967295, "jal r15, 4295491579"},
		{far, 3, "jal r15, 524287"},
		{0, 0, ".word 0"},
		{4294967295, 8, ".word 4294967295"},
		{71876608, 100, "add r1, r2, r3"},
		{71876609, 100, ".word 71876609"},
		{3221225472, 0, "halt"},
		{3221225473, 0, ".word 3221225473"},
		{wordOf(t, api.Ins{Op: api.OpJalr, A: 10, B: 11, Imm: -131072}), 400, "jalr r10, -131072(r11)"},
		{wordOf(t, api.Ins{Op: api.OpFlush, B: 12}), 400, "flush r12"},
		{wordOf(t, api.Ins{Op: api.OpOut, A: 13, Imm: 33}), 400, "out r13, 33"},
	} {
		if got := Instruction(x.w, x.at); got != x.want {
			t.Errorf("P8.3: Instruction(%d, %d) = %q, want %q", x.w, x.at, got, x.want)
		}
		checkInstruction(t, x.w, x.at)
	}
	r := rand.New(rand.NewSource(83))
	w := newWriter(84)
	for range 20000 {
		checkInstruction(t, r.Uint32(), r.Uint32())
		checkInstruction(t, wordOf(t, w.ins()), r.Uint32()>>r.Intn(32))
	}
}

func TestDisassemble(t *testing.T) {
	i := api.Image{Entry: 4, Pages: 2, Segments: []api.Segment{
		{At: 2, Data: "a\"" + bytesOf(3221225472, 0) + "\\\n"},
		{At: 14, Data: "\x00"},
		{At: 15, Data: "~" + bytesOf(wordOf(t, api.Ins{Op: api.OpBeq, A: 1, B: 1, Imm: -2}))},
		{At: 253, Data: "xyz"},
	}, Disk: []api.Page{{}, api.Page([]byte(strings.Repeat("s", 128)))}}
	want := strings.Join([]string{
		".pages 2", ".entry 4",
		".org 2", `.text "a"`, `.text "\""`, "halt", ".word 0", `.text "\\"`, `.text "\n"`,
		".org 14", `.text "\x00"`,
		".org 15", `.text "~"`, "beq r1, r1, 8",
		".org 253", `.text "x"`, `.text "y"`, `.text "z"`,
		`.disk "` + strings.Repeat(`\x00`, 128) + `"`, `.disk "` + strings.Repeat("s", 128) + `"`, "",
	}, "\n")
	if src, e := checkDisassemble(t, i); src != want || e != api.OK {
		t.Errorf("P8.4: Disassemble = %s, %d, want %s", shown(src), e, shown(want))
	}
	if src, e := checkDisassemble(t, api.Image{Pages: 1}); src != ".pages 1\n.entry 0\n" || e != api.OK {
		t.Errorf("P8.4: Disassemble of nothing = %q, %d", src, e)
	}
}

// TestShortSegments has segments of all short lengths at all places in a word.
func TestShortSegments(t *testing.T) {
	for at := range 9 {
		for n := 1; n < 12; n++ {
			checkDisassemble(t, api.Image{Pages: 1, Segments: []api.Segment{{At: at, Data: "abcdefghijkl"[:n]}, {At: at + n, Data: "z"}}})
			checkDisassemble(t, api.Image{Pages: 1, Segments: []api.Segment{{At: 128 - n, Data: "abcdefghijkl"[:n]}}})
		}
	}
}

// checkWrong checks that an image is not disassembled.
func checkWrong(t *testing.T, i api.Image, e api.Errno) {
	t.Helper()
	if src, got := checkDisassemble(t, i); src != "" || got != e {
		t.Errorf("P8.4: Disassemble(%d, %d, %d segments, %d sectors) = %s, %d, want %d", i.Entry, i.Pages, len(i.Segments), len(i.Disk), shown(src), got, e)
	}
}

// TestWrongImages has images that are not right.
func TestWrongImages(t *testing.T) {
	const least, most = -1 << 63, 1<<63 - 1
	for _, pages := range []int{0, -1, 65, least, most, 1 << 57, 1<<57 + 1} {
		checkWrong(t, api.Image{Pages: pages}, api.ErrRange)
	}
	for _, entry := range []int{-4, 1, 2, 3, 125, 126, 127, 128, 132, least, most, most - 3} {
		checkWrong(t, api.Image{Pages: 1, Entry: entry}, api.ErrRange)
	}
	checkWrong(t, api.Image{Pages: 2, Entry: 256, Segments: make([]api.Segment, 65)}, api.ErrRange)
	checkWrong(t, api.Image{Pages: 2, Entry: 252, Segments: make([]api.Segment, 65)}, api.ErrLimit)
	checkWrong(t, api.Image{Pages: 2, Segments: make([]api.Segment, 64)}, api.ErrForm)
	checkWrong(t, api.Image{Pages: 2, Segments: make([]api.Segment, 64), Disk: make([]api.Page, 65)}, api.ErrLimit)
	for _, l := range [][]api.Segment{
		{{At: 0, Data: ""}}, {{At: 128, Data: ""}}, {{At: -1, Data: "ab"}}, {{At: 128, Data: "a"}}, {{At: 127, Data: "ab"}}, {{At: 0, Data: strings.Repeat("a", 129)}}, {{At: -129, Data: strings.Repeat("a", 257)}},
		{{At: most, Data: "a"}}, {{At: least, Data: "a"}}, {{At: least, Data: strings.Repeat("a", 200)}}, {{At: most, Data: strings.Repeat("a", 129)}},
		{{At: 4, Data: "a"}, {At: 4, Data: "b"}}, {{At: 4, Data: "ab"}, {At: 5, Data: "b"}}, {{At: 4, Data: "a"}, {At: 0, Data: "b"}}, {{At: 4, Data: "a"}, {At: 8, Data: ""}}, {{At: 4, Data: "a"}, {At: 5, Data: ""}},
	} {
		checkWrong(t, api.Image{Pages: 1, Segments: l}, api.ErrForm)
		checkWrong(t, api.Image{Pages: 1, Segments: l, Disk: make([]api.Page, 65)}, api.ErrLimit)
	}
	if _, e := checkDisassemble(t, api.Image{Pages: 1, Segments: []api.Segment{{At: 4, Data: "ab"}, {At: 6, Data: "b"}}}); e != api.OK {
		t.Errorf("P8.4: two segments side by side have the error %d", e)
	}
}

// TestLongSources has sources of about as many lines and bytes as there may be.
func TestLongSources(t *testing.T) {
	for words := 1990; words < 2000; words++ {
		i := api.Image{Pages: 64, Segments: []api.Segment{{Data: strings.Repeat(bytesOf(3221225472), words)}}}
		_, e := checkDisassemble(t, i)
		// There are lines for .pages, .entry and .org, and an empty one at the end.
		if want := map[bool]api.Errno{true: api.OK, false: api.ErrLimit}[words+4 <= 2000]; e != want {
			t.Errorf("P8.4: %d words have the error %d, want %d", words, e, want)
		}
	}
	for sectors := 20; sectors < 64; sectors++ {
		for text := range 40 {
			i := api.Image{Pages: 1, Segments: []api.Segment{{Data: strings.Repeat("a", text)}}, Disk: make([]api.Page, sectors)}
			src, e := checkDisassemble(t, i)
			if (e == api.OK) != (len(src) > 0) {
				t.Errorf("P8.4: %d bytes with the error %d", len(src), e)
			}
		}
	}
	checkExactly(t)
	many := slices.Repeat([]api.Page{api.Page([]byte(strings.Repeat("s", 128)))}, 64)
	if src, e := checkDisassemble(t, api.Image{Pages: 1, Disk: many}); strings.Count(src, ".disk") != 64 || e != api.OK {
		t.Errorf("P8.4: 64 sectors have the error %d", e)
	}
}

// checkExactly has a source of exactly as many bytes as there may be, and one more.
func checkExactly(t *testing.T) {
	t.Helper()
	i := api.Image{Pages: 64}
	src, _ := disassembleRule(i)
	for left := api.MaxText - len(src); left > 0; {
		// A sector has at least 137 bytes of source, and 3 more for each byte that needs an escape.
		var page api.Page
		line := 137
		for k := range page {
			page[k] = 'a'
			if left-line >= 3+274 || left-line >= 3 && left-line <= 384 && (left-line)%3 == 0 {
				page[k], line = 0, line+3
			}
		}
		i.Disk = append(i.Disk, page)
		left -= line
	}
	got, e := checkDisassemble(t, i)
	if len(got) != api.MaxText || e != api.OK {
		t.Errorf("P8.4: the source has %d bytes, with the error %d", len(got), e)
	}
	last := &i.Disk[len(i.Disk)-1]
	last[strings.IndexByte(string(last[:]), 'a')] = '\n'
	checkWrong(t, i, api.ErrLimit)
}
