package core

import (
	"slices"
	"testing"

	"simulacrum/api"
)

// mapped returns a world of 8 pages with translation: the root is 128, with the second-level table 256, which has the leaves of 0 (the program, at 384), 128 (data, at 512), 256 (that table itself) and 384 (the program again, for fetching alone).
func mapped(l ...api.Ins) world {
	m := api.Mem{Pages: make([]api.Page, 8)}
	store(m, 128, 256+1)
	store(m, 256, 384+1+2+4+8)
	store(m, 260, 512+1+2+4)
	store(m, 264, 256+1+2)
	store(m, 268, 384+1+8)
	for k, i := range l {
		store(m, 384+4*k, word(i))
	}
	store(m, 512, 0x81828384)
	return world{c: api.CPU{C: [9]uint32{0: 128, 1: 64}}, m: m}
}

func reads(at, size int) api.Access { return api.Access{At: at, Size: size} }

func writes(at, size int) api.Access { return api.Access{At: at, Size: size, Store: true} }

func set(at int, value uint32) api.Write { return api.Write{At: at, Size: 4, Value: value} }

// TestTranslated has the accesses and stores of steps with translation, in their order, and of the same step a second time.
func TestTranslated(t *testing.T) {
	const code, data = 384 + 15, 512 + 7
	fetch := []api.Access{reads(128, 4), reads(256, 4), writes(256, 4), reads(384, 4)}
	again := []api.Access{reads(128, 4), reads(256, 4), reads(384, 4)}
	toData := []api.Access{reads(128, 4), reads(260, 4)}
	toDataFirst := append(toData[:2:2], writes(260, 4))
	for _, x := range []struct {
		i          api.Ins
		writes     []api.Write
		first      []api.Access // after the fetch
		more       []api.Write
		second     []api.Access
		r, inPlace uint32 // r1 and the word at 512 after the first step
	}{
		{
			api.Ins{Op: api.OpLw, A: 1, Imm: 128},
			[]api.Write{set(256, code+16), set(260, data+16)}, append(toDataFirst[:3:3], reads(512, 4)),
			nil, append(toData[:2:2], reads(512, 4)), 0x81828384, 0x81828384,
		},
		{
			api.Ins{Op: api.OpLb, A: 1, Imm: 130},
			[]api.Write{set(256, code+16), set(260, data+16)}, append(toDataFirst[:3:3], reads(514, 1)),
			nil, append(toData[:2:2], reads(514, 1)), 0x82, 0x81828384,
		},
		{
			api.Ins{Op: api.OpSw, A: 1, Imm: 128},
			[]api.Write{set(256, code+16), set(260, data+48), set(512, 7)}, append(toDataFirst[:3:3], writes(512, 4)),
			[]api.Write{set(512, 7)}, append(toData[:2:2], writes(512, 4)), 7, 7,
		},
		{
			api.Ins{Op: api.OpSb, A: 1, Imm: 131},
			[]api.Write{set(256, code+16), set(260, data+48), {At: 515, Size: 1, Value: 7}}, append(toDataFirst[:3:3], writes(515, 1)),
			[]api.Write{{At: 515, Size: 1, Value: 7}}, append(toData[:2:2], writes(515, 1)), 7, 0x07828384,
		},
		{
			api.Ins{Op: api.OpSwap, A: 1, Imm: 128},
			[]api.Write{set(256, code+16), set(260, data+48), set(512, 7)}, append(toDataFirst[:3:3], reads(512, 4), writes(512, 4)),
			[]api.Write{set(512, 7)}, append(toData[:2:2], reads(512, 4), writes(512, 4)), 0x81828384, 7,
		},
		{api.Ins{Op: api.OpAddi, A: 1, B: 1, Imm: 1}, []api.Write{set(256, code+16)}, nil, nil, nil, 8, 0x81828384},
		{api.Ins{Op: api.OpLw, A: 1, Imm: 4}, []api.Write{set(256, code+16)}, []api.Access{reads(128, 4), reads(256, 4), reads(388, 4)}, nil, []api.Access{reads(128, 4), reads(256, 4), reads(388, 4)}, 0, 0x81828384},
		{
			api.Ins{Op: api.OpSw, A: 1, Imm: 4},
			[]api.Write{set(256, code+16), set(256, code+48), set(388, 7)}, []api.Access{reads(128, 4), reads(256, 4), writes(256, 4), writes(388, 4)},
			[]api.Write{set(388, 7)}, []api.Access{reads(128, 4), reads(256, 4), writes(388, 4)}, 7, 0x81828384,
		},
	} {
		for _, user := range []bool{false, true} {
			w := mapped(x.i)
			w.c.R[1], w.c.User = 7, user
			e := checkStep(t, w)
			if !slices.Equal(e.Writes, x.writes) || !slices.Equal(e.Accesses, slices.Concat(fetch, x.first)) || e.CPU.R[1] != x.r || e.CPU.PC != 4 || e.Trap != 0 || e.CPU.User != user {
				t.Errorf("P12.2: the step of %+v is %+v", x.i, e)
			}
			w.m = after(w.m, e.Writes)
			if got := wordOf(w.m, 512); got != x.inPlace {
				t.Errorf("P12.2: after %+v the word is %x", x.i, got)
			}
			e = checkStep(t, w)
			if !slices.Equal(e.Writes, x.more) || !slices.Equal(e.Accesses, slices.Concat(again, x.second)) || e.Trap != 0 {
				t.Errorf("P12.2: the second step of %+v is %+v", x.i, e)
			}
		}
	}
}

// TestFaults has the traps of translations, at the fetch and after it: what was read and set before them stays in the effect.
func TestFaults(t *testing.T) {
	fetch := []api.Access{reads(128, 4), reads(256, 4), writes(256, 4), reads(384, 4)}
	fetched := []api.Write{set(256, 384+15+16)}
	for _, x := range []struct {
		pc     uint32
		user   bool
		i      api.Ins
		trap   int
		value  uint32
		places []api.Access
		writes []api.Write
	}{
		{128, false, api.Ins{Op: api.OpWait}, 4, 128, []api.Access{reads(128, 4), reads(260, 4)}, nil},
		{512, false, api.Ins{Op: api.OpWait}, 4, 512, []api.Access{reads(128, 4), reads(272, 4)}, nil},
		{4096, false, api.Ins{Op: api.OpWait}, 4, 4096, []api.Access{reads(132, 4)}, nil},
		{384, true, api.Ins{Op: api.OpEcall}, 4, 384, []api.Access{reads(128, 4), reads(268, 4)}, nil},
		{1 << 17, false, api.Ins{Op: api.OpWait}, 4, 1 << 17, nil, nil},
		{0, false, api.Ins{Op: api.OpLw, Imm: 512}, 5, 512, append(fetch[:4:4], reads(128, 4), reads(272, 4)), fetched},
		{0, false, api.Ins{Op: api.OpSb, Imm: 8192}, 6, 8192, append(fetch[:4:4], reads(136, 4)), fetched},
		{0, false, api.Ins{Op: api.OpSw, Imm: 384}, 6, 384, append(fetch[:4:4], reads(128, 4), reads(268, 4)), fetched},
		{0, false, api.Ins{Op: api.OpSwap, Imm: 384}, 6, 384, append(fetch[:4:4], reads(128, 4), reads(268, 4)), fetched},
		{0, true, api.Ins{Op: api.OpLb, Imm: 257}, 5, 257, append(fetch[:4:4], reads(128, 4), reads(264, 4)), fetched},
		{0, true, api.Ins{Op: api.OpSwap, Imm: 258}, 3, 258, fetch, fetched},
		{0, false, api.Ins{Op: api.OpLw, Imm: -4}, 5, 1<<32 - 4, fetch, fetched},
		{0, true, api.Ins{Op: api.OpHalt}, 2, 48 << 26, fetch, fetched},
		{0, true, api.Ins{Op: api.OpEcall}, 1, 0, fetch, fetched},
		{0, false, api.Ins{Op: api.OpCsrr, Imm: 9}, 2, 42<<26 + 9, fetch, fetched},
	} {
		w := mapped(x.i)
		w.c.PC, w.c.User = x.pc, x.user
		e := checkStep(t, w)
		epc := x.pc
		if x.trap == 1 {
			epc += 4
		}
		if e.Trap != x.trap || e.CPU.C[4] != x.value || e.CPU.C[2] != epc || e.CPU.PC != 64 || e.CPU.User || !slices.Equal(e.Accesses, x.places) || !slices.Equal(e.Writes, x.writes) {
			t.Errorf("P12.1: the step at %d of %+v is %+v", x.pc, x.i, e)
		}
	}
}

// TestOwnEntries has steps that see the bits of the tables that they have set themselves.
func TestOwnEntries(t *testing.T) {
	const code, table = 384 + 15, 256 + 3
	// The table is mapped at 256 on: 256 is the leaf of the program, 264 that of the table.
	for _, x := range []struct {
		i     api.Ins
		r     uint32
		at    int
		after uint32
	}{
		{api.Ins{Op: api.OpLw, A: 1, Imm: 256}, code + 16, 256, code + 16},
		{api.Ins{Op: api.OpLw, A: 1, Imm: 264}, table + 16, 264, table + 16},
		{api.Ins{Op: api.OpLb, A: 1, Imm: 264}, table + 16 - 256, 264, table + 16},
		{api.Ins{Op: api.OpSwap, A: 1, Imm: 256}, code + 16, 256, 7},
		{api.Ins{Op: api.OpSwap, A: 1, Imm: 264}, table + 48, 264, 7},
		{api.Ins{Op: api.OpSw, A: 1, Imm: 264}, 7, 264, 7},
		{api.Ins{Op: api.OpSb, A: 1, Imm: 265}, 7, 264, 7<<8 + 3 + 48},
	} {
		w := mapped(x.i)
		w.c.R[1] = 7
		e := checkStep(t, w)
		if got := wordOf(after(w.m, e.Writes), x.at); e.Trap != 0 || e.CPU.R[1] != x.r || got != x.after {
			t.Errorf("P12.2: after %+v the entry is %d, and r1 %d", x.i, got, e.CPU.R[1])
		}
	}
	// A leaf is fetched as an instruction, which it is not: the trap has the word as the fetch has set it.
	w := mapped()
	store(w.m, 272, 256+9)
	w.c.PC = 512 + 16
	if e := checkStep(t, w); e.Trap != 2 || e.Word != 256+9+16 || e.CPU.C[4] != 256+9+16 || !slices.Equal(e.Accesses, []api.Access{reads(128, 4), reads(272, 4), writes(272, 4), reads(272, 4)}) {
		t.Errorf("P12.1: the step at a leaf is %+v", e)
	}
}

// TestLargeEntries has a program and its data in one large mapping: the entry gets its bits step by step.
func TestLargeEntries(t *testing.T) {
	m := api.Mem{Pages: make([]api.Page, 64)}
	store(m, 132, 4096+64+15)
	store(m, 4096+260, word(api.Ins{Op: api.OpSw, A: 1, B: 1, Imm: 400}))
	w := world{c: api.CPU{PC: 4096 + 260, User: true, C: [9]uint32{0: 128}}, m: m}
	w.c.R[1] = 4096
	e := checkStep(t, w)
	if !slices.Equal(e.Writes, []api.Write{set(132, 4096+64+31), set(132, 4096+64+63), set(4496, 4096)}) || !slices.Equal(e.Accesses, []api.Access{reads(132, 4), writes(132, 4), reads(4356, 4), reads(132, 4), writes(132, 4), writes(4496, 4)}) {
		t.Errorf("P12.2: the step is %+v", e)
	}
}
