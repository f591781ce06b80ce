package ring

import (
	"testing"

	"simulacrum/api"
)

// statusBytes returns the addresses of the statuses of some descriptors.
func statusBytes(r api.Ring, indices ...int) map[int]bool {
	out := map[int]bool{}
	for _, i := range indices {
		for k := range 4 {
			out[int(r.Base)+16*i+12+k] = true
		}
	}
	return out
}

// checkOnly has P16.6: a call changes only some bytes.
func checkOnly(t *testing.T, what string, before, after api.Mem, may map[int]bool) {
	t.Helper()
	if len(before.Pages) != len(after.Pages) {
		t.Fatalf("P16.6: after %s the memory has another size", what)
	}
	for _, at := range changed(before, after) {
		if !may[at] {
			t.Fatalf("P16.6: %s changes the byte at %d", what, at)
		}
	}
}

// indicesOf returns the indices of parts.
func indicesOf(l []api.Part) []int {
	var out []int
	for _, p := range l {
		out = append(out, p.Index)
	}
	return out
}

// checkTakenOnce has P16.7.
func checkTakenOnce(t *testing.T, m api.Mem, r api.Ring, l []api.Part) {
	t.Helper()
	for _, p := range l {
		if i, is := First(m, r, p.Index); is && i == p.Index {
			t.Fatalf("P16.7: the descriptor %d was taken, and is offered", i)
		}
		after, none, e := Take(m, r, p.Index)
		if e != api.ErrOffer || len(none) != 0 || !sameMem(after, m) {
			t.Fatalf("P16.7: Take of %d, which was taken: %+v, %d", p.Index, none, e)
		}
	}
}

// checkShape has P16.8.
func checkShape(t *testing.T, l []api.Part, e api.Errno) {
	t.Helper()
	if (len(l) == 0) == (e == api.OK) || len(l) > 4 {
		t.Fatalf("P16.8: %d parts, and the error %d", len(l), e)
	}
	sum, written, seen := 0, false, map[int]bool{}
	for _, p := range l {
		if seen[p.Index] || written && !p.Write {
			t.Fatalf("P16.8: the parts are %+v", l)
		}
		sum += p.Len
		written = p.Write
		seen[p.Index] = true
	}
	if sum > 2048 || Room(l) > sum {
		t.Fatalf("P16.8: the parts %+v have %d bytes", l, sum)
	}
}

// checkRequest has P16.6 to P16.8 for the request that begins with a descriptor.
func checkRequest(t *testing.T, g maker, m api.Mem, r api.Ring, i int) {
	t.Helper()
	taken, l, e := Take(m, r, i)
	checkShape(t, l, e)
	if e != api.OK {
		checkOnly(t, "Take with an error", m, taken, statusBytes(r, i))
		return
	}
	checkOnly(t, "Take", m, taken, statusBytes(r, indicesOf(l)...))
	checkTakenOnce(t, taken, r, l)
	written := map[int]bool{}
	for _, at := range addresses(l, true) {
		written[at] = true
	}
	moved, n := Scatter(taken, l, g.data(l))
	checkOnly(t, "Scatter", taken, moved, written)
	if n > Room(l) {
		t.Fatalf("P16.5: %d bytes are written, and there is room for %d", n, Room(l))
	}
	checkOnly(t, "Finish", moved, Finish(moved, r, l), statusBytes(r, indicesOf(l)...))
	checkOnly(t, "Fail", moved, Fail(moved, r, i, api.ErrBase+api.Errno(g.Intn(6))), statusBytes(r, i))
}

func TestRequests(t *testing.T) {
	g := newMaker(165)
	for n := range 6000 {
		m, r := g.memory()
		if n%2 == 0 {
			m, r = g.wild()
		}
		for i := range int(r.Size) {
			checkRequest(t, g, m, r, i)
		}
	}
}

// TestNoise has P16.8 in memories of nothing but noise, of one bit pattern, and of words that are all alike.
func TestNoise(t *testing.T) {
	g := newMaker(166)
	for range 2000 {
		m := g.noise(in(g, 1, 2, 64))
		checkRequest(t, g, m, g.ring(m), 0)
	}
	for x := range 1024 {
		m := zeroed(3)
		for at := 0; at < 384; at += 4 {
			put(m, at, uint32(x))
		}
		for _, size := range []uint32{1, 2, 4, 8} {
			for i := range int(size) {
				r := api.Ring{Base: 128, Size: size}
				checkTake(t, m, r, i)
				checkRequest(t, g, m, r, i)
			}
		}
	}
}

// TestOverlaps has parts that are in the ring itself: of its own descriptors, and of others.
func TestOverlaps(t *testing.T) {
	g := newMaker(167)
	r := api.Ring{Base: 128, Size: 4}
	for at := uint32(100); at < 200; at++ {
		for _, n := range []uint32{1, 4, 16, 40, 64} {
			m := put(zeroed(3), 128, at, n, 2+256*2, 1)
			put(m, 128+16, 300, 1, 0, 1)
			put(m, 128+32, at+3, n, 1, 1)
			put(m, 128+48, at, n, 1, 1)
			for i := range 4 {
				checkRequest(t, g, m, r, i)
				taken, l, e := checkTake(t, m, r, i)
				if e != api.OK {
					t.Fatalf("P16.3: parts in the ring: %d", e)
				}
				checkGather(t, taken, l)
				moved, _ := checkScatter(t, taken, l, g.data(l))
				checkFinish(t, moved, r, l)
			}
		}
	}
}

// apart returns parts without a common byte, in any order, and some of them written.
func (g maker) apart(size int) []api.Part {
	var out []api.Part
	for at := g.Intn(100); ; at += g.Intn(100) {
		n := 1 + g.Intn(200)
		if len(out) == 4 || at+n > size {
			break
		}
		out = append(out, api.Part{Index: len(out), At: at, Len: n})
		at += n
	}
	g.Shuffle(len(out), func(a, b int) { out[a], out[b] = out[b], out[a] })
	return out
}

// as returns the same parts, all of them written or read.
func as(l []api.Part, written bool) []api.Part {
	var out []api.Part
	for _, p := range l {
		p.Write = written
		out = append(out, p)
	}
	return out
}

// TestReadBack has P16.9: what is gathered from one memory, is scattered in another one, and is read back there.
func TestReadBack(t *testing.T) {
	g := newMaker(168)
	for range 3000 {
		from, to := g.noise(8), g.noise(8)
		data := Gather(from, as(g.apart(1024), false))
		l := g.apart(1024)
		before := Gather(to, as(l, false))
		after, n := Scatter(to, as(l, true), data)
		if n != min(len(data), Room(as(l, true))) {
			t.Fatalf("P16.5: of %d bytes %d are written to %+v", len(data), n, l)
		}
		if got := Gather(after, as(l, false)); got != data[:n]+before[n:] {
			t.Fatalf("P16.9: %q is read back from %+v as %q", data, l, got)
		}
	}
}

// TestHistories has a guest that offers requests, and a device that takes all of them: each one once, in the order in which First finds them.
func TestHistories(t *testing.T) {
	g := newMaker(169)
	for range 500 {
		m, r := g.memory()
		for pos, left := 0, 0; ; left++ {
			i, is := checkFirst(t, m, r, pos)
			if !is {
				break
			}
			if left == 8 {
				t.Fatalf("P16.7: after 8 requests %d is offered: %+v", i, rowsOf(flat(m), r))
			}
			after, l, e := Take(m, r, i)
			if e == api.OK {
				after = Finish(after, r, l)
			}
			if status := statusOf(after, r, i); e == api.OK && status != 3 || e != api.OK && status != 4+int(e)-160 {
				t.Fatalf("P16.4: the request %d has the error %d, and the status %d", i, e, status)
			}
			m, pos = after, (i+1)%int(r.Size)
		}
	}
}

// TestAnyArguments has arguments of which the chapter specifies nothing: no function panics, and all of them end (P1).
func TestAnyArguments(t *testing.T) {
	g := newMaker(170)
	numbers := []int{-1 << 63, -1<<63 + 1, -1 << 40, -17, -16, -1, 0, 1, 7, 8, 9, 255, 1 << 20, 1 << 32, 1 << 59, 1<<63 - 1}
	words := []uint32{0, 1, 2, 3, 8, 9, 16, 120, 1 << 16, 1<<28 + 1, 1 << 31, 1<<32 - 16, 1<<32 - 1}
	for range 3000 {
		m := g.noise(in(g, 0, 1, 2, 64, 65))
		before := copied(m)
		r := api.Ring{Base: in(g, words...), Size: in(g, words...)}
		l := []api.Part{{Index: in(g, numbers...), At: in(g, numbers...), Len: in(g, numbers...)}, {Index: in(g, numbers...), At: in(g, numbers...), Len: in(g, numbers...), Write: true}}
		i, e := in(g, numbers...), api.Errno(in(g, numbers...))
		checkCheck(t, m, r)
		if first, is := First(m, r, i); (is || first != 0) && Check(m, r) != api.OK {
			t.Fatalf("P16.2: the ring %+v is not there, but First is %d, %v", r, first, is)
		}
		Take(m, r, i)
		Finish(m, r, l)
		Fail(m, r, i, e)
		Gather(m, l)
		Room(l)
		Scatter(m, l, g.text(g.Intn(20)))
		if !sameMem(m, before) {
			t.Fatal("a call has changed the memory")
		}
	}
}
