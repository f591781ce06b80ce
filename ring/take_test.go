package ring

import (
	"slices"
	"testing"

	"simulacrum/api"
)

// words are the address, the length, the flags and the status of a descriptor.
type words [4]uint32

// filled returns a memory of 8 pages with a ring at 256 that has some descriptors; those that are missing are offered, each for itself.
func filled(size int, l ...words) (api.Mem, api.Ring) {
	m := zeroed(8)
	for i := range size {
		w := words{uint32(600 + i), 1, 0, 1}
		if i < len(l) {
			w = l[i]
		}
		put(m, 256+16*i, w[:]...)
	}
	return m, api.Ring{Base: 256, Size: uint32(size)}
}

// checkTaken checks Take of a descriptor against what was found by hand: the indices of the parts, or the error.
func checkTaken(t *testing.T, what string, m api.Mem, r api.Ring, i int, want []int, wantE api.Errno) {
	t.Helper()
	after, l, e := checkTake(t, m, r, i)
	var got []int
	wanted := copied(m)
	for _, p := range l {
		got = append(got, p.Index)
		put(wanted, 256+16*p.Index+12, 2)
	}
	if wantE != api.OK && statusOf(m, r, i) == 1 {
		put(wanted, 256+16*i+12, uint32(wantE)-156)
	}
	if e != wantE || !slices.Equal(got, want) {
		t.Errorf("P16.3: %s: Take of %d has the parts %v and the error %d, not %v, %d", what, i, got, e, want, wantE)
	}
	if !sameMem(after, wanted) {
		t.Errorf("P16.3: %s: Take of %d changes the bytes at %v", what, i, changed(m, after))
	}
}

// TestSingle has requests of one descriptor.
func TestSingle(t *testing.T) {
	for _, x := range []struct {
		w    words
		want api.Errno
	}{
		{words{512, 3, 0, 1}, api.OK}, {words{512, 3, 1, 1}, api.OK}, {words{0, 1, 0, 1}, api.OK}, {words{0, 512, 1, 1}, api.OK}, {words{256, 16, 1, 1}, api.OK},
		{words{512, 512, 0, 1}, api.OK}, {words{513, 511, 0, 1}, api.OK}, {words{1023, 1, 0, 1}, api.OK},
		{words{512, 0, 0, 1}, api.ErrPart}, {words{0, 513, 0, 1}, api.ErrPart}, {words{0, 1024, 1, 1}, api.ErrPart}, {words{0, 1 << 31, 0, 1}, api.ErrPart}, {words{0, 1<<32 - 1, 0, 1}, api.ErrPart}, {words{2, 1<<32 - 1, 0, 1}, api.ErrPart}, {words{0, 1<<16 + 1, 0, 1}, api.ErrPart},
		{words{513, 512, 0, 1}, api.ErrPart}, {words{1023, 2, 0, 1}, api.ErrPart}, {words{1024, 1, 0, 1}, api.ErrPart}, {words{1020, 5, 1, 1}, api.ErrPart}, {words{1 << 31, 1, 0, 1}, api.ErrPart}, {words{1<<32 - 1, 1, 0, 1}, api.ErrPart}, {words{1<<32 - 1, 2, 0, 1}, api.ErrPart}, {words{1<<32 - 256, 512, 0, 1}, api.ErrPart},
		{words{512, 3, 256, 1}, api.ErrFlag}, {words{512, 3, 257, 1}, api.ErrFlag}, {words{512, 3, 1 << 15, 1}, api.ErrFlag}, {words{512, 3, 0xff00, 1}, api.ErrFlag}, {words{512, 3, 1<<16 + 2, 1}, api.ErrFlag}, {words{512, 3, 1<<32 - 1, 1}, api.ErrFlag},
		{words{512, 3, 2 + 0x400, 1}, api.ErrIndex}, {words{512, 3, 3 + 0x400, 1}, api.ErrIndex}, {words{512, 3, 2 + 0x500, 1}, api.ErrIndex}, {words{512, 3, 2 + 0x800, 1}, api.ErrIndex}, {words{512, 3, 2 + 0x8000, 1}, api.ErrIndex}, {words{512, 3, 2 + 0xff00, 1}, api.ErrIndex},
		{words{512, 3, 2, 1}, api.ErrLoop}, {words{512, 3, 3, 1}, api.ErrLoop},
		{words{512, 3, 0, 0}, api.ErrOffer}, {words{512, 3, 0, 2}, api.ErrOffer}, {words{512, 3, 0, 3}, api.ErrOffer}, {words{512, 3, 0, 4}, api.ErrOffer}, {words{512, 3, 0, 9}, api.ErrOffer}, {words{512, 3, 0, 257}, api.ErrOffer}, {words{512, 3, 0, 1<<24 + 1}, api.ErrOffer}, {words{512, 3, 0, 1<<32 - 1}, api.ErrOffer},
		// The first one of several errors.
		{words{1024, 0, 256, 0}, api.ErrOffer}, {words{512, 3, 256, 2}, api.ErrOffer}, {words{512, 3, 2 + 0x400, 3}, api.ErrOffer}, {words{1024, 3, 0, 3}, api.ErrOffer}, {words{512, 3, 2, 3}, api.ErrOffer},
		{words{1024, 1, 256, 1}, api.ErrPart}, {words{512, 0, 4, 1}, api.ErrPart}, {words{512, 0, 2 + 0x400, 1}, api.ErrPart}, {words{1024, 1, 2, 1}, api.ErrPart},
		{words{512, 3, 2 + 0x400 + 4, 1}, api.ErrFlag}, {words{512, 3, 2 + 0xff00 + 1<<16, 1}, api.ErrFlag}, {words{512, 3, 2 + 4, 1}, api.ErrFlag},
	} {
		m, r := filled(4, x.w)
		want := []int{0}
		if x.want != api.OK {
			want = nil
		}
		checkTaken(t, "one", m, r, 0, want, x.want)
		// The errors of what follows are those of the request.
		m, r = filled(4, x.w, words{700, 7, 2, 1})
		if x.want == api.ErrLoop {
			checkTaken(t, "itself behind another one", m, r, 1, nil, api.ErrLoop)
		} else if x.want != api.OK {
			checkTaken(t, "behind another one", m, r, 1, nil, x.want)
		} else {
			checkTaken(t, "behind another one", m, r, 1, []int{1, 0}, api.OK)
		}
	}
}

// TestFlagBits has each bit of the flags for itself.
func TestFlagBits(t *testing.T) {
	for n := range 32 {
		for _, base := range []uint32{0, 1} {
			m, r := filled(8, words{512, 3, base ^ 1<<n, 1})
			switch {
			case n == 0:
				checkTaken(t, "written or not", m, r, 0, []int{0}, api.OK)
			case n == 1:
				checkTaken(t, "itself", m, r, 0, nil, api.ErrLoop)
			default:
				checkTaken(t, "a bit", m, r, 0, nil, api.ErrFlag)
			}
			m, r = filled(8, words{512, 3, 2 + base ^ 1<<n, 1}, words{}, words{}, words{}, words{}, words{}, words{}, words{})
			switch {
			case n == 0:
				checkTaken(t, "itself, written or not", m, r, 0, nil, api.ErrLoop)
			case n == 1:
				checkTaken(t, "nothing more", m, r, 0, []int{0}, api.OK)
			case n >= 8 && n < 11:
				checkTaken(t, "one that is not offered", m, r, 0, nil, api.ErrOffer)
			case n >= 11 && n < 16:
				checkTaken(t, "an index", m, r, 0, nil, api.ErrIndex)
			default:
				checkTaken(t, "a bit", m, r, 0, nil, api.ErrFlag)
			}
		}
	}
}

// TestIndices has all indices in rings of all sizes.
func TestIndices(t *testing.T) {
	for _, size := range []int{1, 2, 4, 8} {
		for i := range size {
			for next := range 256 {
				m, r := filled(size)
				put(m, 256+16*i+8, 2+256*uint32(next))
				switch {
				case next == i:
					checkTaken(t, "itself", m, r, i, nil, api.ErrLoop)
				case next < size:
					checkTaken(t, "two", m, r, i, []int{i, next}, api.OK)
				default:
					checkTaken(t, "none of the ring", m, r, i, nil, api.ErrIndex)
				}
			}
		}
	}
}

// TestChains has requests of several descriptors.
func TestChains(t *testing.T) {
	read := func(next uint32) words { return words{512, 3, 256*next + 2, 1} }
	written := func(next uint32) words { return words{512, 3, 256*next + 3, 1} }
	lastRead, lastWritten := words{512, 3, 0, 1}, words{512, 3, 1, 1}
	for _, x := range []struct {
		what  string
		l     []words
		i     int
		want  []int
		wantE api.Errno
	}{
		{"two that are read", []words{read(1), lastRead}, 0, []int{0, 1}, api.OK},
		{"three, backwards", []words{lastWritten, written(0), read(1)}, 2, []int{2, 1, 0}, api.OK},
		{"the end of one", []words{lastWritten, written(0), read(1)}, 1, []int{1, 0}, api.OK},
		{"four", []words{read(2), lastWritten, read(3), written(1)}, 0, []int{0, 2, 3, 1}, api.OK},
		{"four that are written", []words{written(1), written(2), written(3), lastWritten}, 0, []int{0, 1, 2, 3}, api.OK},
		{"four that are read", []words{read(7), lastRead, read(1), {}, {}, {}, {}, read(2)}, 0, []int{0, 7, 2, 1}, api.OK},
		{"five", []words{read(1), read(2), read(3), read(4), lastRead}, 0, nil, api.ErrLoop},
		{"the last four of five", []words{read(1), read(2), read(3), read(4), lastRead}, 1, []int{1, 2, 3, 4}, api.OK},
		{"eight", []words{read(1), read(2), read(3), read(4), read(5), read(6), read(7), lastRead}, 0, nil, api.ErrLoop},
		{"five, the last one not offered", []words{read(1), read(2), read(3), read(4), {512, 3, 0, 0}}, 0, nil, api.ErrLoop},
		{"five, the last one without bytes", []words{read(1), read(2), read(3), read(4), {512, 0, 0, 1}}, 0, nil, api.ErrLoop},
		{"five, the last one with a flag", []words{read(1), read(2), read(3), read(4), {512, 3, 4, 1}}, 0, nil, api.ErrLoop},
		{"five, the last one read after one that is written", []words{read(1), read(2), read(3), written(4), lastRead}, 0, nil, api.ErrLoop},
		{"four, and an index that is none", []words{read(1), read(2), read(3), read(8)}, 0, nil, api.ErrIndex},
		{"a loop of two", []words{read(1), read(0)}, 0, nil, api.ErrLoop},
		{"a loop of three", []words{read(1), read(2), read(0)}, 1, nil, api.ErrLoop},
		{"a loop of four", []words{read(1), read(2), read(3), read(0)}, 2, nil, api.ErrLoop},
		{"a loop behind one", []words{read(1), read(2), read(1)}, 0, nil, api.ErrLoop},
		{"a loop of itself behind two", []words{read(1), read(2), read(2)}, 0, nil, api.ErrLoop},
		{"a loop back to one that is read", []words{read(1), written(0)}, 0, nil, api.ErrLoop},
		{"a loop that begins with one that is written", []words{read(1), written(0)}, 1, nil, api.ErrFlag},
		{"one that is read after one that is written", []words{written(1), lastRead}, 0, nil, api.ErrFlag},
		{"the same, with more", []words{written(1), read(2), lastRead}, 0, nil, api.ErrFlag},
		{"the last one of three", []words{read(1), written(2), lastRead}, 0, nil, api.ErrFlag},
		{"the last one of four", []words{written(1), written(2), written(3), lastRead}, 0, nil, api.ErrFlag},
		{"read after written, an index that is none", []words{written(1), read(9)}, 0, nil, api.ErrFlag},
		{"read after written, without bytes", []words{written(1), {512, 0, 2 + 256*9, 1}}, 0, nil, api.ErrPart},
		{"the second one not offered", []words{read(1), {512, 3, 0, 2}}, 0, nil, api.ErrOffer},
		{"the second one not offered, all else wrong", []words{written(1), {1024, 0, 256, 0}}, 0, nil, api.ErrOffer},
		{"the fourth one not offered", []words{read(1), read(2), read(3), {512, 3, 0, 3}}, 0, nil, api.ErrOffer},
		{"the first one not offered, the second one wrong", []words{{512, 3, 258, 0}, {1024, 1, 0, 1}}, 0, nil, api.ErrOffer},
		{"an error of the first one, and of the second one", []words{{512, 0, 258, 1}, {512, 3, 0, 0}}, 0, nil, api.ErrPart},
		{"an error of the second one, and of the third one", []words{read(1), {512, 3, 2 + 512 + 8, 1}, {1024, 1, 0, 1}}, 0, nil, api.ErrFlag},
		{"the fourth one behind the memory", []words{read(1), read(2), read(3), {1022, 3, 0, 1}}, 0, nil, api.ErrPart},
		{"the fourth one with a flag", []words{read(1), read(2), read(3), {512, 3, 1 << 31, 1}}, 0, nil, api.ErrFlag},
		{"the same bytes in all parts", []words{{512, 512, 258, 1}, {512, 512, 514, 1}, {512, 512, 771, 1}, {512, 512, 1, 1}}, 0, []int{0, 1, 2, 3}, api.OK},
	} {
		m, r := filled(8, x.l...)
		checkTaken(t, x.what, m, r, x.i, x.want, x.wantE)
	}
}

// TestOrder has all sets of errors of each descriptor of a request: the first one counts.
func TestOrder(t *testing.T) {
	for place := range 4 {
		for set := range 32 {
			var l []words
			for k := range 4 {
				next := uint32(k+1) % 4
				l = append(l, words{512, 3, 2 + 256*next, 1})
			}
			l[3][2] = 0
			want := api.OK
			for k, x := range []struct {
				e     api.Errno
				spoil func(w *words)
			}{
				{api.ErrIndex, func(w *words) { w[2] = w[2]&^0xff00 | 2 + 0x800 }},
				{api.ErrFlag, func(w *words) { w[2] |= 1 << 16 }},
				{api.ErrPart, func(w *words) { w[1] = 513 }},
				{api.ErrPart, func(w *words) { w[0] = 1022 }},
				{api.ErrOffer, func(w *words) { w[3] = 0 }},
			} {
				if set>>k%2 == 1 {
					x.spoil(&l[place])
					want = x.e
				}
			}
			m, r := filled(8, l...)
			wantL := []int{0, 1, 2, 3}
			if want != api.OK {
				wantL = nil
			}
			checkTaken(t, "errors", m, r, 0, wantL, want)
		}
	}
}

// TestRandom compares all functions with the rules, in memories with rings of all kinds.
func TestRandom(t *testing.T) {
	g := newMaker(164)
	seen := map[api.Errno]int{}
	lengths := map[int]int{}
	for n := range 3000 {
		m, r := g.memory()
		if n%3 == 0 {
			m, r = g.wild()
		}
		if checkCheck(t, m, r) != api.OK {
			t.Fatalf("P16.1: the ring %+v is not there", r)
		}
		for i := range int(r.Size) {
			checkFirst(t, m, r, i)
			after, l, e := checkTake(t, m, r, i)
			seen[e]++
			lengths[len(l)]++
			checkFinish(t, after, r, l)
			checkFinish(t, m, r, l)
			checkGather(t, after, l)
			moved, _ := checkScatter(t, after, l, g.data(l))
			checkFinish(t, moved, r, l)
		}
	}
	for _, e := range []api.Errno{api.OK, api.ErrPart, api.ErrIndex, api.ErrLoop, api.ErrFlag, api.ErrOffer} {
		if seen[e] < 100 {
			t.Errorf("the error %d was seen %d times", e, seen[e])
		}
	}
	for n := range 5 {
		if lengths[n] < 100 {
			t.Errorf("requests of %d parts were seen %d times", n, lengths[n])
		}
	}
}
