package ring

import (
	"slices"
	"testing"

	"simulacrum/api"
)

// sameMem reports whether two memories have the same bytes.
func sameMem(a, b api.Mem) bool { return slices.Equal(a.Pages, b.Pages) }

// checkMem compares a memory that a call returned with the bytes that a rule has, and looks whether it is new memory.
func checkMem(t *testing.T, what string, before, m, got api.Mem, want []byte) {
	t.Helper()
	if !sameMem(got, folded(want)) {
		t.Fatalf("%s: the bytes at %v differ", what, changed(got, folded(want)))
	}
	for n := range got.Pages {
		got.Pages[n][n%128] ^= 0xff
	}
	if !sameMem(m, before) {
		t.Fatalf("%s: the argument has changed, or the result is not new memory", what)
	}
	for n := range got.Pages {
		got.Pages[n][n%128] ^= 0xff
	}
}

// changed returns the addresses of the bytes that two memories of one size have different.
func changed(a, b api.Mem) []int {
	var out []int
	x, y := flat(a), flat(b)
	for k := range x {
		if x[k] != y[k] {
			out = append(out, k)
		}
	}
	return out
}

func checkCheck(t *testing.T, m api.Mem, r api.Ring) api.Errno {
	t.Helper()
	want := api.Errno(160)
	if thereRule(flat(m), r) {
		want = 0
	}
	got := Check(m, r)
	if got != want {
		t.Fatalf("P16.1: Check(%d pages, %+v) = %d, not %d", len(m.Pages), r, got, want)
	}
	return got
}

func checkFirst(t *testing.T, m api.Mem, r api.Ring, pos int) (int, bool) {
	t.Helper()
	before := copied(m)
	got, is := First(m, r, pos)
	if want, wantIs := firstRule(flat(before), r, pos); got != want || is != wantIs {
		t.Fatalf("P16.2: First(%+v, %d) = %d, %v, not %d, %v: %+v", r, pos, got, is, want, wantIs, rowsOf(flat(m), r))
	}
	if !sameMem(m, before) {
		t.Fatalf("P16.2: First(%+v, %d) has changed the memory", r, pos)
	}
	return got, is
}

func checkTake(t *testing.T, m api.Mem, r api.Ring, i int) (api.Mem, []api.Part, api.Errno) {
	t.Helper()
	before := copied(m)
	got, l, e := Take(m, r, i)
	want, wantL, wantE := takeRule(flat(before), r, i)
	if e != wantE || !slices.Equal(l, wantL) {
		t.Fatalf("P16.3: Take(%d pages, %+v, %d) = %+v, %d, not %+v, %d: %+v", len(m.Pages), r, i, l, e, wantL, wantE, rowsOf(flat(m), r))
	}
	checkMem(t, "P16.3: Take", before, m, got, want)
	return got, l, e
}

func checkFinish(t *testing.T, m api.Mem, r api.Ring, l []api.Part) api.Mem {
	t.Helper()
	before, list := copied(m), slices.Clone(l)
	got := Finish(m, r, l)
	checkMem(t, "P16.4: Finish", before, m, got, finishRule(flat(before), r, list))
	if !slices.Equal(l, list) {
		t.Fatalf("P16.4: Finish has changed the parts %+v", list)
	}
	return got
}

func checkFail(t *testing.T, m api.Mem, r api.Ring, i int, e api.Errno) api.Mem {
	t.Helper()
	before := copied(m)
	got := Fail(m, r, i, e)
	checkMem(t, "P16.4: Fail", before, m, got, failRule(flat(before), r, i, e))
	return got
}

func checkGather(t *testing.T, m api.Mem, l []api.Part) string {
	t.Helper()
	before, list := copied(m), slices.Clone(l)
	got := Gather(m, l)
	if want := gatherRule(flat(before), list); got != want {
		t.Fatalf("P16.5: Gather(%d pages, %+v) = %q, not %q", len(m.Pages), l, got, want)
	}
	if room, want := Room(l), roomRule(list); room != want {
		t.Fatalf("P16.5: Room(%+v) = %d, not %d", l, room, want)
	}
	if !sameMem(m, before) || !slices.Equal(l, list) {
		t.Fatalf("P16.5: Gather or Room of %+v has changed an argument", list)
	}
	return got
}

func checkScatter(t *testing.T, m api.Mem, l []api.Part, data string) (api.Mem, int) {
	t.Helper()
	before, list := copied(m), slices.Clone(l)
	got, n := Scatter(m, l, data)
	want, wantN := scatterRule(flat(before), list, data)
	if n != wantN {
		t.Fatalf("P16.5: Scatter of %d bytes to %+v has written %d, not %d", len(data), l, n, wantN)
	}
	checkMem(t, "P16.5: Scatter", before, m, got, want)
	if !slices.Equal(l, list) {
		t.Fatalf("P16.5: Scatter has changed the parts %+v", list)
	}
	return got, n
}

func zeroed(pages int) api.Mem { return api.Mem{Pages: make([]api.Page, pages)} }

// exampleRing and example are the ring and the memory of the chapter's examples.
func exampleRing() api.Ring { return api.Ring{Base: 256, Size: 4} }

func example() api.Mem {
	m := put(zeroed(8), 256+16, 512, 3, 514, 1)
	return put(m, 256+32, 600, 5, 1, 1)
}

// statusOf returns the status of a descriptor.
func statusOf(m api.Mem, r api.Ring, i int) int { return rowsOf(flat(m), r)[i].status }

func TestConstants(t *testing.T) {
	got := []int{
		api.DescBytes, api.MaxRing, api.MaxChain, api.MaxPart, api.DcWrite, api.DcMore, api.PageSize, api.MaxPages,
		api.StFree, api.StOffered, api.StTaken, api.StDone, api.StFailed,
		int(api.OK), int(api.ErrBase), int(api.ErrPart), int(api.ErrIndex), int(api.ErrLoop), int(api.ErrFlag), int(api.ErrOffer),
	}
	want := []int{16, 8, 4, 512, 1, 2, 128, 64, 0, 1, 2, 3, 4, 0, 160, 161, 162, 163, 164, 165}
	if !slices.Equal(got, want) {
		t.Errorf("the tests have other numbers than package api: %v, %v", want, got)
	}
	m, r := newMaker(160).memory()
	if !sameMem(folded(flat(m)), m) || len(rowsOf(flat(m), r)) != int(r.Size) {
		t.Error("the bytes of a memory are not those of the memory")
	}
}

// TestExamples has the chapter's examples.
func TestExamples(t *testing.T) {
	r, m := exampleRing(), example()
	for pos, want := range []int{1, 1, 2, 1} {
		if i, is := First(m, r, pos); i != want || !is {
			t.Errorf("P16.2: First from %d is %d, %v", pos, i, is)
		}
	}
	taken, l, e := Take(m, r, 1)
	if want := []api.Part{{Index: 1, At: 512, Len: 3}, {Index: 2, At: 600, Len: 5, Write: true}}; e != api.OK || !slices.Equal(l, want) {
		t.Fatalf("P16.3: Take of 1: %+v, %d", l, e)
	}
	if !sameMem(taken, put(put(copied(m), 256+28, 2), 256+44, 2)) {
		t.Errorf("P16.3: after Take of 1 the bytes at %v differ", changed(m, taken))
	}
	again, none, e := Take(taken, r, 1)
	if e != api.ErrOffer || len(none) != 0 || !sameMem(again, taken) {
		t.Errorf("P16.3: Take of 1 again: %+v, %d", none, e)
	}
	after, n := Scatter(taken, l, "abcdefg")
	if Room(l) != 5 || n != 5 || !sameMem(after, put(put(copied(taken), 600, 0x64636261), 604, 0x65)) {
		t.Errorf("P16.5: room for %d bytes, and %d are written, at %v", Room(l), n, changed(taken, after))
	}
	loop := put(copied(m), 256+40, 1+2+256)
	failed, none, e := Take(loop, r, 1)
	if e != api.ErrLoop || len(none) != 0 || !sameMem(failed, put(copied(loop), 256+28, 7)) {
		t.Errorf("P16.3: Take of a loop: %+v, %d, at %v", none, e, changed(loop, failed))
	}
	behind := put(copied(m), 256+32, 1020)
	failed, none, e = Take(behind, r, 2)
	if e != api.ErrPart || len(none) != 0 || !sameMem(failed, put(copied(behind), 256+44, 5)) {
		t.Errorf("P16.3: Take of a part behind the memory: %+v, %d, at %v", none, e, changed(behind, failed))
	}
}

func TestCheck(t *testing.T) {
	sizes := []uint32{12, 15, 16, 17, 24, 32, 64, 128, 256, 257, 1 << 16, 1 << 28, 1<<28 + 1, 1<<28 + 4, 1 << 31, 1<<31 + 1, 1<<32 - 1, 1<<32 - 8}
	for n := range uint32(12) {
		sizes = append(sizes, n)
	}
	for _, pages := range []int{1, 2, 3, 64} {
		m := zeroed(pages)
		end := uint32(128 * pages)
		bases := []uint32{1 << 31, 1<<32 - 1, 1<<32 - 16, 1<<32 - 64, 1<<32 - 128, 1 << 16, 1<<16 + 16}
		for k := range uint32(300) {
			bases = append(bases, k, end-k, end+k)
		}
		for _, base := range bases {
			for _, size := range sizes {
				checkCheck(t, m, api.Ring{Base: base, Size: size})
			}
		}
	}
}

// TestThere has rings, and whether they are there, found by hand.
func TestThere(t *testing.T) {
	for _, x := range []struct {
		pages      int
		base, size uint32
		want       api.Errno
	}{
		{1, 0, 1, api.OK}, {1, 0, 2, api.OK}, {1, 0, 4, api.OK}, {1, 0, 8, api.OK},
		{1, 112, 1, api.OK}, {1, 112, 2, api.ErrBase}, {1, 96, 2, api.OK}, {1, 64, 4, api.OK}, {1, 80, 4, api.ErrBase}, {1, 16, 8, api.ErrBase},
		{2, 16, 8, api.OK}, {2, 128, 8, api.OK}, {2, 144, 8, api.ErrBase}, {2, 240, 1, api.OK}, {2, 256, 1, api.ErrBase},
		{64, 8176, 1, api.OK}, {64, 8192, 1, api.ErrBase}, {64, 8064, 8, api.OK}, {64, 8080, 8, api.ErrBase},
		{8, 256, 0, api.ErrBase}, {8, 256, 3, api.ErrBase}, {8, 256, 5, api.ErrBase}, {8, 256, 6, api.ErrBase}, {8, 256, 7, api.ErrBase}, {8, 256, 9, api.ErrBase}, {8, 256, 16, api.ErrBase},
		{8, 8, 1, api.ErrBase}, {8, 4, 1, api.ErrBase}, {8, 1, 1, api.ErrBase}, {8, 15, 1, api.ErrBase}, {8, 17, 1, api.ErrBase}, {8, 264, 4, api.ErrBase},
		{8, 1<<32 - 16, 1, api.ErrBase}, {8, 1<<32 - 16, 2, api.ErrBase}, {8, 1<<32 - 128, 8, api.ErrBase}, {8, 0, 1 << 28, api.ErrBase}, {8, 0, 1<<28 + 1, api.ErrBase}, {8, 0, 1<<32 - 1, api.ErrBase},
	} {
		if e := Check(zeroed(x.pages), api.Ring{Base: x.base, Size: x.size}); e != x.want {
			t.Errorf("P16.1: the ring of %d at %d, in %d pages: %d", x.size, x.base, x.pages, e)
		}
	}
}

// TestFirst has all sets of descriptors that are offered, and from where one looks.
func TestFirst(t *testing.T) {
	g := newMaker(161)
	for _, size := range []int{1, 2, 4, 8} {
		m := g.noise(2)
		r := api.Ring{Base: 48, Size: uint32(size)}
		for set := range 1 << size {
			for i := range size {
				status := in(g, uint32(0), 2, 3, 4, 9, 257, 1<<24+1, 1<<31+1)
				if set>>i%2 == 1 {
					status = 1
				}
				put(m, 48+16*i+12, status)
			}
			for pos := range size {
				if _, is := checkFirst(t, m, r, pos); is != (set > 0) {
					t.Fatalf("P16.2: of the set %b there is one: %v", set, is)
				}
			}
		}
	}
}

// TestFail has all errors, and numbers that are none of this layer.
func TestFail(t *testing.T) {
	g := newMaker(162)
	for range 50 {
		m, r := g.memory()
		for i := range int(r.Size) {
			for e := api.Errno(156); e < 172; e++ {
				checkFail(t, m, r, i, e)
			}
			for _, e := range []api.Errno{0, 1, 2, 12, -1, -160, 1600, 256 + 161, 1<<32 + 161, -1 << 63, 1<<63 - 1} {
				if after := checkFail(t, m, r, i, e); !sameMem(after, m) {
					t.Fatalf("P16.4: Fail with the error %d has changed the memory", e)
				}
			}
		}
	}
	for k, e := range []api.Errno{api.ErrBase, api.ErrPart, api.ErrIndex, api.ErrLoop, api.ErrFlag, api.ErrOffer} {
		if after := Fail(example(), exampleRing(), 2, e); statusOf(after, exampleRing(), 2) != 4+k {
			t.Errorf("P16.4: Fail with the error %d: the status is %d", e, statusOf(after, exampleRing(), 2))
		}
	}
}

func TestBytes(t *testing.T) {
	g := newMaker(163)
	for range 3000 {
		m := g.noise(in(g, 1, 2, 4, 8, 64))
		l := g.parts(m)
		checkGather(t, m, l)
		checkScatter(t, m, l, g.data(l))
		var written []api.Part
		for _, p := range l {
			p.Write = true
			written = append(written, p)
		}
		checkGather(t, m, written)
		checkScatter(t, m, written, g.data(written))
	}
	m := g.noise(3)
	checkGather(t, m, nil)
	checkScatter(t, m, nil, "")
	checkScatter(t, m, nil, "abc")
	checkFinish(t, m, api.Ring{Base: 128, Size: 8}, nil)
}

// TestMoved has parts, and bytes that are moved, found by hand.
func TestMoved(t *testing.T) {
	m := zeroed(2)
	for k := range 256 {
		m.Pages[k/128][k%128] = byte(k)
	}
	read := []api.Part{{Index: 3, At: 65, Len: 2}, {Index: 0, At: 127, Len: 3}, {Index: 1, At: 97, Len: 1, Write: true}, {Index: 2, At: 65, Len: 1}}
	if s := Gather(m, read); s != "AB\x7f\x80\x81A" || Room(read) != 1 {
		t.Errorf("P16.5: %q, %d", s, Room(read))
	}
	// What two parts name, is what the second one has.
	both := []api.Part{{Index: 0, At: 127, Len: 3, Write: true}, {Index: 1, At: 128, Len: 2, Write: true}}
	for _, x := range []struct {
		data, want string
		n          int
	}{
		{"", "\x7e\x7f\x80\x81\x82", 0}, {"a", "\x7ea\x80\x81\x82", 1}, {"abc", "\x7eabc\x82", 3}, {"abcd", "\x7eadc\x82", 4}, {"abcde", "\x7eade\x82", 5}, {"abcdef", "\x7eade\x82", 5}, {"éé", "\x7e\xc3\xa9\xc3\x82", 4},
	} {
		after, n := Scatter(m, both, x.data)
		if got := string(flat(after)[126:131]); got != x.want || n != x.n {
			t.Errorf("P16.5: Scatter of %q: %q, %d", x.data, got, n)
		}
	}
}
