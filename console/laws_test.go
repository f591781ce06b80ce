package console

import (
	"testing"

	"simulacrum/api"
	"simulacrum/wire"
)

// outside is what is outside a console: the bytes that have come and must be read yet, oldest first, and how many have come, were read and were lost.
type outside struct {
	due              []byte
	come, read, lost int
}

// feed lets a byte come.
func (o *outside) feed(t *testing.T, c api.Console, b byte) api.Console {
	t.Helper()
	c, is := Feed(c, b)
	if is != (len(o.due) < 64) {
		t.Fatalf("P15.5: with %d bytes to be read Feed is %v", len(o.due), is)
	}
	o.come++
	if is {
		o.due = append(o.due, b)
	} else {
		o.lost++
	}
	return c
}

// take reads a byte.
func (o *outside) take(t *testing.T, g maker, c api.Console) api.Console {
	t.Helper()
	c, x, out, is := Port(c, api.IO{In: true, Port: 33, Value: g.Uint32()})
	want := uint32(1<<32 - 1)
	if len(o.due) > 0 {
		want = uint32(o.due[0])
		o.due = o.due[1:]
		o.read++
	}
	if x != want || out != "" || !is {
		t.Fatalf("P15.5: an in is %d, %q, %v, not %d", x, out, is, want)
	}
	return c
}

// TestHistories has bytes that come, are read and are put out, in any order: they are read in the order in which they came, each once, those that were lost never; and as many are read, wait or were lost as have come (P15.5).
func TestHistories(t *testing.T) {
	g := newMaker(157)
	for range 200 {
		var c api.Console
		var o outside
		for range 20 {
			often := in(g, 1, 3, 5) // of six steps
			for range 100 {
				switch k := g.Intn(8); {
				case k < often:
					c = o.feed(t, c, g.byte())
				case k < 6:
					c = o.take(t, g, c)
				default:
					c = askNothing(t, g, c)
				}
			}
			_, waiting, _, _ := Port(c, api.IO{In: true, Port: 34})
			if o.read+int(waiting)+o.lost != o.come || c.Lost != o.lost || c.In != string(o.due) || !Valid(c) {
				t.Fatalf("P15.5: of %d bytes %d are read, %d wait, %d are lost: %#v", o.come, o.read, waiting, o.lost, c)
			}
		}
	}
}

// askNothing asks for what changes no console.
func askNothing(t *testing.T, g maker, c api.Console) api.Console {
	t.Helper()
	io := g.ask()
	if io.In && io.Port == 33 {
		io.In = false
	}
	after, _, _, _ := Port(c, io)
	if after != c {
		t.Fatalf("P15.6: %+v makes %#v of %#v", io, after, c)
	}
	return after
}

// TestFullConsole has bytes that come when no more can wait, until as many are lost as can be counted.
func TestFullConsole(t *testing.T) {
	g := newMaker(158)
	for _, lost := range []int{0, 1, 1<<32 - 3, 1<<40 - 5, 1<<40 - 1, 1 << 40} {
		c := api.Console{In: g.bytes(64), Lost: lost}
		waiting := c.In
		for n := range 10 {
			var is bool
			c, is = Feed(c, g.byte())
			if want := min(lost+n+1, 1<<40); is || c.Lost != want || c.In != waiting {
				t.Fatalf("P15.2: after %d more bytes the console is %#v, %v; %d should be lost", n+1, c, is, want)
			}
		}
		c, x, _, _ := Port(c, api.IO{In: true, Port: 33})
		if x != uint32(waiting[0]) || c.In != waiting[1:] {
			t.Fatalf("P15.5: of a full console %d is read, and %#v waits", x, c)
		}
		again, is := Feed(c, 'z')
		if !is || again.In != waiting[1:]+"z" || again.Lost != c.Lost {
			t.Fatalf("P15.5: after one byte is read, Feed is %v, with %#v", is, again)
		}
	}
}

// TestOutputs has consoles to which the same values are put out: the outputs are the same, and the consoles stay as they were (P15.6).
func TestOutputs(t *testing.T) {
	g := newMaker(159)
	for _, value := range values() {
		_, _, want, _ := Port(api.Console{}, api.IO{Port: 32, Value: value})
		if len(want) != 1 || uint32(want[0]) != value&255 {
			t.Fatalf("P15.3: %d is put out as %q", value, want)
		}
		for _, c := range g.consoles(10) {
			if after, x, out, is := Port(c, api.IO{Port: 32, Value: value}); after != c || x != 0 || out != want || !is {
				t.Fatalf("P15.6: %d is put out as %q, %d, %v, and makes %#v of %#v", value, out, x, is, after, c)
			}
		}
	}
}

// TestEveryCallReturns has arguments of all kinds, also those for which nothing is specified (P1).
func TestEveryCallReturns(t *testing.T) {
	defer func() {
		if r := recover(); r != nil {
			t.Errorf("P1: a call panics: %v", r)
		}
	}()
	g := newMaker(160)
	for range 3000 {
		c := in(g, g.wrong(), g.console(), api.Console{})
		Valid(c)
		Feed(c, g.byte())
		Port(c, g.ask())
		Encode(c)
		Decode(Encode(c))
		Decode([]byte(g.bytes(g.Intn(30))))
		Decode(append(wire.Int(in(g, -1, 0, 1, 64, 65, 1<<40, 1<<63-1, -1<<63)), Encode(c)...))
	}
}
