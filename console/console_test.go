package console

import (
	"slices"
	"strings"
	"testing"

	"simulacrum/api"
)

func checkValid(t *testing.T, c api.Console) {
	t.Helper()
	if got, want := Valid(c), validRule(c); got != want {
		t.Fatalf("P15.1: Valid(%#v) = %v, not %v", c, got, want)
	}
}

func checkFeed(t *testing.T, c api.Console, b byte) api.Console {
	t.Helper()
	got, is := Feed(c, b)
	if want, wantIs := feedRule(c, b); got != want || is != wantIs {
		t.Fatalf("P15.2: Feed(%#v, %d) = %#v, %v, not %#v, %v", c, b, got, is, want, wantIs)
	}
	return got
}

func checkPort(t *testing.T, c api.Console, io api.IO) api.Console {
	t.Helper()
	got, x, out, is := Port(c, io)
	if want, wantX, wantOut, wantIs := portRule(c, io); got != want || x != wantX || out != wantOut || is != wantIs {
		t.Fatalf("P15.3: Port(%#v, %+v) = %#v, %d, %q, %v, not %#v, %d, %q, %v", c, io, got, x, out, is, want, wantX, wantOut, wantIs)
	}
	return got
}

func TestConstants(t *testing.T) {
	got := []int{
		api.PoOut, api.PoIn, api.PoWaiting, api.MaxConsole, api.MaxCount,
		int(api.OK), int(api.ErrForm), int(api.ErrTruncated), int(api.ErrEncoding),
	}
	want := []int{32, 33, 34, maxConsole, maxCount, 0, 3, 10, 11}
	if !slices.Equal(got, want) {
		t.Errorf("the tests have other numbers than package api: %v, %v", want, got)
	}
	g := newMaker(150)
	for _, c := range g.consoles(200) {
		if again := partsOf(c).console(); again != c {
			t.Errorf("the parts of %#v are those of %#v", c, again)
		}
	}
}

// TestExamples has the chapter's examples, one after the other.
func TestExamples(t *testing.T) {
	var c api.Console
	feed := func(b byte, want bool) {
		t.Helper()
		var is bool
		if c, is = Feed(c, b); is != want {
			t.Fatalf("P15.2: Feed of %d is %v", b, is)
		}
	}
	ask := func(io api.IO, want uint32, wantOut string, wantIs bool) {
		t.Helper()
		var x uint32
		var out string
		var is bool
		if c, x, out, is = Port(c, io); x != want || out != wantOut || is != wantIs {
			t.Fatalf("P15.3: %+v is %d, %q, %v", io, x, out, is)
		}
	}
	feed('a', true)
	feed('b', true)
	ask(api.IO{In: true, Port: 34}, 2, "", true)
	ask(api.IO{In: true, Port: 33}, 97, "", true)
	ask(api.IO{In: true, Port: 33}, 98, "", true)
	ask(api.IO{In: true, Port: 33}, 4294967295, "", true)
	ask(api.IO{Port: 32, Value: 0x141}, 0, "A", true)
	ask(api.IO{In: true, Port: 32}, 0, "", false)
	ask(api.IO{Port: 33}, 0, "", false)
	ask(api.IO{In: true, Port: 35}, 0, "", false)
	if c != (api.Console{}) {
		t.Errorf("P15.3: the console is %#v", c)
	}
	for n := range 65 {
		feed(byte(n), n < 64)
	}
	if c.Lost != 1 || len(c.In) != 64 {
		t.Errorf("P15.2: the console is %#v", c)
	}
}

func TestValid(t *testing.T) {
	for _, x := range []struct {
		waiting, lost int
		want          bool
	}{
		{0, 0, true}, {1, 0, true}, {63, 0, true}, {64, 0, true}, {65, 0, false}, {66, 0, false}, {128, 0, false}, {1 << 16, 0, false},
		{0, 1, true}, {0, 1 << 32, true}, {0, 1<<40 - 1, true}, {0, 1 << 40, true}, {0, 1<<40 + 1, false}, {0, 1<<63 - 1, false},
		{0, -1, false}, {0, -1 << 40, false}, {0, -1 << 63, false},
		{64, 1 << 40, true}, {64, 1<<40 + 1, false}, {64, -1, false}, {65, 1 << 40, false}, {65, -1, false},
	} {
		for _, s := range []string{"a", "\x00", "\xff"} {
			if c := (api.Console{In: strings.Repeat(s, x.waiting), Lost: x.lost}); Valid(c) != x.want {
				t.Errorf("P15.1: Valid of the console with %d bytes, %d lost, is not %v", x.waiting, x.lost, x.want)
			}
		}
	}
	// Bytes count, and not runes.
	for _, s := range []string{strings.Repeat("é", 33), strings.Repeat("日", 22)} {
		if Valid(api.Console{In: s}) {
			t.Errorf("P15.1: a console with %d bytes is valid", len(s))
		}
	}
	g := newMaker(151)
	for _, c := range g.consoles(3000) {
		wrong := g.wrong()
		checkValid(t, c)
		checkValid(t, wrong)
		if !Valid(c) || Valid(wrong) {
			t.Fatalf("P15.1: %#v is not valid, or %#v is", c, wrong)
		}
	}
}

func TestFeed(t *testing.T) {
	g := newMaker(152)
	for _, c := range g.consoles(300) {
		for b := range 256 {
			checkFeed(t, c, byte(b))
		}
	}
}

// TestComing has bytes that come, and results found by hand.
func TestComing(t *testing.T) {
	a63, b64 := strings.Repeat("a", 63), strings.Repeat("b", 64)
	for _, x := range []struct {
		c      api.Console
		b      byte
		want   api.Console
		wantIs bool
	}{
		{api.Console{}, 0, api.Console{In: "\x00"}, true},
		{api.Console{}, 255, api.Console{In: "\xff"}, true},
		{api.Console{In: "\xc3"}, 0xa9, api.Console{In: "é"}, true},
		{api.Console{In: "a", Lost: 7}, 'b', api.Console{In: "ab", Lost: 7}, true},
		{api.Console{In: "a", Lost: 1 << 40}, 128, api.Console{In: "a\x80", Lost: 1 << 40}, true},
		{api.Console{In: a63}, 'c', api.Console{In: a63 + "c"}, true},
		{api.Console{In: a63, Lost: 1<<40 - 1}, 'c', api.Console{In: a63 + "c", Lost: 1<<40 - 1}, true},
		{api.Console{In: b64}, 'c', api.Console{In: b64, Lost: 1}, false},
		{api.Console{In: b64, Lost: 1}, 0, api.Console{In: b64, Lost: 2}, false},
		{api.Console{In: b64, Lost: 1<<32 - 1}, 0, api.Console{In: b64, Lost: 1 << 32}, false},
		{api.Console{In: b64, Lost: 1<<40 - 2}, 255, api.Console{In: b64, Lost: 1<<40 - 1}, false},
		{api.Console{In: b64, Lost: 1<<40 - 1}, 255, api.Console{In: b64, Lost: 1 << 40}, false},
		{api.Console{In: b64, Lost: 1 << 40}, 255, api.Console{In: b64, Lost: 1 << 40}, false},
	} {
		if got, is := Feed(x.c, x.b); got != x.want || is != x.wantIs {
			t.Errorf("P15.2: Feed(%#v, %d) = %#v, %v", x.c, x.b, got, is)
		}
	}
}

func TestPorts(t *testing.T) {
	g := newMaker(153)
	for _, c := range g.consoles(50) {
		for _, port := range portNumbers() {
			for _, value := range values() {
				checkPort(t, c, api.IO{Port: port, Value: value})
			}
			checkPort(t, c, api.IO{In: true, Port: port})
			checkPort(t, c, api.IO{In: true, Port: port, Value: g.Uint32()})
		}
	}
}

// TestAsked has what is asked, and results found by hand.
func TestAsked(t *testing.T) {
	b64 := strings.Repeat("b", 64)
	for _, x := range []struct {
		c      api.Console
		io     api.IO
		after  api.Console
		want   uint32
		out    string
		wantIs bool
	}{
		{api.Console{In: "ab", Lost: 3}, api.IO{In: true, Port: 33}, api.Console{In: "b", Lost: 3}, 'a', "", true},
		{api.Console{In: "ab", Lost: 3}, api.IO{In: true, Port: 33, Value: 7}, api.Console{In: "b", Lost: 3}, 'a', "", true},
		{api.Console{In: "a"}, api.IO{In: true, Port: 33}, api.Console{}, 'a', "", true},
		{api.Console{In: "\x00"}, api.IO{In: true, Port: 33}, api.Console{}, 0, "", true},
		{api.Console{In: "\xff\xff"}, api.IO{In: true, Port: 33}, api.Console{In: "\xff"}, 255, "", true},
		{api.Console{In: "éa"}, api.IO{In: true, Port: 33}, api.Console{In: "\xa9a"}, 0xc3, "", true},
		{api.Console{In: "日"}, api.IO{In: true, Port: 33}, api.Console{In: "\x97\xa5"}, 0xe6, "", true},
		{api.Console{Lost: 5}, api.IO{In: true, Port: 33}, api.Console{Lost: 5}, 1<<32 - 1, "", true},
		{api.Console{Lost: 5}, api.IO{In: true, Port: 33, Value: 9}, api.Console{Lost: 5}, 1<<32 - 1, "", true},
		{api.Console{In: b64, Lost: 1}, api.IO{In: true, Port: 33}, api.Console{In: b64[1:], Lost: 1}, 'b', "", true},
		{api.Console{}, api.IO{In: true, Port: 34}, api.Console{}, 0, "", true},
		{api.Console{In: "日a", Lost: 9}, api.IO{In: true, Port: 34}, api.Console{In: "日a", Lost: 9}, 4, "", true},
		{api.Console{In: b64, Lost: 9}, api.IO{In: true, Port: 34, Value: 7}, api.Console{In: b64, Lost: 9}, 64, "", true},
		{api.Console{In: "x", Lost: 2}, api.IO{Port: 32}, api.Console{In: "x", Lost: 2}, 0, "\x00", true},
		{api.Console{In: "x"}, api.IO{Port: 32, Value: 'y'}, api.Console{In: "x"}, 0, "y", true},
		{api.Console{In: b64}, api.IO{Port: 32, Value: 128}, api.Console{In: b64}, 0, "\x80", true},
		{api.Console{}, api.IO{Port: 32, Value: 233}, api.Console{}, 0, "\xe9", true},
		{api.Console{}, api.IO{Port: 32, Value: 256}, api.Console{}, 0, "\x00", true},
		{api.Console{}, api.IO{Port: 32, Value: 0x20ac}, api.Console{}, 0, "\xac", true},
		{api.Console{}, api.IO{Port: 32, Value: 1<<32 - 1}, api.Console{}, 0, "\xff", true},
		{api.Console{}, api.IO{Port: 32, Value: 0xffffff0a}, api.Console{}, 0, "\n", true},
		{api.Console{In: "x", Lost: 1}, api.IO{In: true, Port: 32, Value: 'y'}, api.Console{In: "x", Lost: 1}, 0, "", false},
		{api.Console{In: "x", Lost: 1}, api.IO{Port: 33, Value: 'y'}, api.Console{In: "x", Lost: 1}, 0, "", false},
		{api.Console{In: "x", Lost: 1}, api.IO{Port: 34, Value: 'y'}, api.Console{In: "x", Lost: 1}, 0, "", false},
		{api.Console{In: "x"}, api.IO{In: true, Port: 31}, api.Console{In: "x"}, 0, "", false},
		{api.Console{In: "x"}, api.IO{In: true, Port: 35}, api.Console{In: "x"}, 0, "", false},
		{api.Console{In: "x"}, api.IO{Port: 31, Value: 'y'}, api.Console{In: "x"}, 0, "", false},
		{api.Console{In: "x"}, api.IO{Port: 35, Value: 'y'}, api.Console{In: "x"}, 0, "", false},
		{api.Console{In: "x"}, api.IO{In: true, Port: -33}, api.Console{In: "x"}, 0, "", false},
		{api.Console{In: "x"}, api.IO{In: true}, api.Console{In: "x"}, 0, "", false},
		{api.Console{In: "x"}, api.IO{}, api.Console{In: "x"}, 0, "", false},
	} {
		if got, y, out, is := Port(x.c, x.io); got != x.after || y != x.want || out != x.out || is != x.wantIs {
			t.Errorf("P15.3: Port(%#v, %+v) = %#v, %d, %q, %v", x.c, x.io, got, y, out, is)
		}
	}
}
