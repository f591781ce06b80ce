package isa

import (
	"math"
	"slices"
	"testing"

	"simulacrum/api"
)

// checkUse checks which registers a right instruction reads and writes (P4.6). Of others the chapter says nothing: they only have to return (P1).
func checkUse(t *testing.T, b book, i api.Ins) {
	reads, writes := Reads(i), Writes(i)
	if !b.right(i) {
		return
	}
	if !slices.Equal(reads, b.reads(i)) {
		t.Fatalf("P4.6: Reads(%+v) = %v, want %v", i, reads, b.reads(i))
	}
	if writes != b.writes(i) {
		t.Fatalf("P4.6: Writes(%+v) = %d, want %d", i, writes, b.writes(i))
	}
}

// checkTarget checks where an instruction goes (P4.7), and that the opposite one goes back (P4.10).
func checkTarget(t *testing.T, b book, pc uint32, i api.Ins) {
	want, ok := b.target(pc, i)
	to, got := Target(pc, i)
	if to != want || got != ok {
		t.Fatalf("P4.7: Target(%d, %+v) = %d, %v, want %d, %v", pc, i, to, got, want, ok)
	}
	if !got {
		return
	}
	back := i
	back.Imm = -i.Imm
	if at, ok := Target(to, back); b.right(back) && (at != pc || !ok) {
		t.Fatalf("P4.10: Target(%d, %+v) = %d, %v, want %d", to, back, at, ok, pc)
	}
}

func TestExampleUses(t *testing.T) {
	for _, x := range []struct {
		i      api.Ins
		reads  []int
		writes int
	}{
		{api.Ins{Op: api.OpSw, A: 3, B: 2}, []int{2, 3}, 0},
		{api.Ins{Op: api.OpSwap, A: 3, B: 3, Imm: 4}, []int{3}, 3},
		{api.Ins{Op: api.OpAdd, A: 1, B: 15, C: 2}, []int{2, 15}, 1},
		{api.Ins{Op: api.OpAdd, A: 1, B: 1, C: 1}, []int{1}, 1},
		{api.Ins{Op: api.OpSub, B: 0, C: 4}, []int{4}, 0},
		{api.Ins{Op: api.OpSub, A: 4}, nil, 4},
		{api.Ins{Op: api.OpAddi, A: 2, B: 1}, []int{1}, 2},
		{api.Ins{Op: api.OpHigh, A: 2}, nil, 2},
		{api.Ins{Op: api.OpLb, A: 2, B: 9}, []int{9}, 2},
		{api.Ins{Op: api.OpSb, A: 9, B: 2}, []int{2, 9}, 0},
		{api.Ins{Op: api.OpSwap, B: 7}, []int{7}, 0},
		{api.Ins{Op: api.OpBltu, A: 2, B: 1}, []int{1, 2}, 0},
		{api.Ins{Op: api.OpJal, A: 14}, nil, 14},
		{api.Ins{Op: api.OpJalr, A: 14, B: 13}, []int{13}, 14},
		{api.Ins{Op: api.OpEcall}, nil, 0},
		{api.Ins{Op: api.OpEret}, nil, 0},
		{api.Ins{Op: api.OpCsrr, A: 3, Imm: 1}, nil, 3},
		{api.Ins{Op: api.OpCsrw, A: 3, Imm: 1}, []int{3}, 0},
		{api.Ins{Op: api.OpFlush, B: 3}, []int{3}, 0},
		{api.Ins{Op: api.OpFlush}, nil, 0},
		{api.Ins{Op: api.OpIn, A: 3, Imm: 16}, nil, 3},
		{api.Ins{Op: api.OpOut, A: 3, Imm: 16}, []int{3}, 0},
		{api.Ins{Op: api.OpHalt}, nil, 0},
	} {
		if reads, writes := Reads(x.i), Writes(x.i); !slices.Equal(reads, x.reads) || writes != x.writes {
			t.Errorf("P4.6: %s %+v reads %v and writes %d, want %v and %d", Name(x.i.Op), x.i, reads, writes, x.reads, x.writes)
		}
	}
}

// TestReadsAndWrites has all right instructions with three numbers for Imm.
func TestReadsAndWrites(t *testing.T) {
	b := chapter()
	count := 0
	for op := range 64 {
		for registers := range 4096 {
			for _, imm := range []int{0, api.MinImm, api.MaxImm} {
				i := api.Ins{Op: op, A: registers % 16, B: registers / 16 % 16, C: registers / 256, Imm: imm}
				if b.right(i) {
					count++
				}
				checkUse(t, b, i)
			}
		}
	}
	if want := 12*4096 + 11*256*3 + 6*16*3 + 16 + 4; count != want {
		t.Errorf("P4.6: %d right instructions, want %d", count, want)
	}
}

func TestReadsIsNewMemory(t *testing.T) {
	for _, i := range []api.Ins{{Op: api.OpAdd, A: 1, B: 3, C: 2}, {Op: api.OpSw, A: 5, B: 4}, {Op: api.OpAddi, A: 1, B: 6}, {Op: api.OpOut, A: 7}} {
		one, two := Reads(i), Reads(i)
		was := slices.Clone(one)
		clear(one[:cap(one)])
		_ = append(one, 9)
		if !slices.Equal(two, was) || !slices.Equal(Reads(i), was) {
			t.Errorf("P4.6: what is read by %+v changes with an earlier result", i)
		}
	}
}

func TestTarget(t *testing.T) {
	for _, x := range []struct {
		pc uint32
		i  api.Ins
		to uint32
		ok bool
	}{
		{8, api.Ins{Op: api.OpBeq, A: 1, B: 1, Imm: -2}, 0, true},
		{4, api.Ins{Op: api.OpBeq, A: 1, B: 1, Imm: -2}, 4294967292, true},
		{4294967292, api.Ins{Op: api.OpJal, A: 1, Imm: 1}, 0, true},
		{4294967295, api.Ins{Op: api.OpJal, Imm: 1}, 3, true},
		{0, api.Ins{Op: api.OpBne}, 0, true},
		{100, api.Ins{Op: api.OpBlt}, 100, true},
		{0, api.Ins{Op: api.OpBltu, Imm: api.MinImm}, 4294443008, true},
		{0, api.Ins{Op: api.OpJal, Imm: api.MaxImm}, 524284, true},
		{100, api.Ins{Op: api.OpJalr, A: 1, B: 2, Imm: 1}, 0, false},
		{100, api.Ins{Op: api.OpAddi, A: 1, B: 2, Imm: 1}, 0, false},
		{100, api.Ins{Op: api.OpJal, A: 1, B: 2, Imm: 1}, 0, false},
		{100, api.Ins{Op: api.OpJal, A: 16, Imm: 1}, 0, false},
		{100, api.Ins{Op: api.OpBeq, Imm: api.MaxImm + 1}, 0, false},
		{100, api.Ins{Op: api.OpBeq, C: 1, Imm: 1}, 0, false},
		{100, api.Ins{}, 0, false},
	} {
		if to, ok := Target(x.pc, x.i); to != x.to || ok != x.ok {
			t.Errorf("P4.7: Target(%d, %s %+v) = %d, %v, want %d, %v", x.pc, Name(x.i.Op), x.i, to, ok, x.to, x.ok)
		}
	}
}

// TestTargets has right instructions and others at addresses near both ends.
func TestTargets(t *testing.T) {
	b := chapter()
	pcs := []uint32{0, 1, 4, 1 << 19, 1 << 31, math.MaxUint32 - 3, math.MaxUint32}
	imms := []int{0, 1, -1, 1 << 16, api.MaxImm, api.MinImm, api.MinImm + 1, api.MaxImm + 1, api.MinImm - 1, 1 << 30, 1<<30 + 1, math.MaxInt, math.MinInt}
	for op := -1; op < 130; op++ {
		for _, a := range []int{-1, 0, 1, 15, 16} {
			for _, r := range []int{0, 15, 16} {
				for _, imm := range imms {
					for _, pc := range pcs {
						checkTarget(t, b, pc, api.Ins{Op: op, A: a, B: r, Imm: imm})
						checkTarget(t, b, pc, api.Ins{Op: op, A: a, C: r, Imm: imm})
					}
				}
			}
		}
	}
	for _, op := range []int{api.OpBeq, api.OpBne, api.OpBlt, api.OpBltu, api.OpJal} {
		for imm := api.MinImm; imm <= api.MaxImm; imm += 7 {
			checkTarget(t, b, 1000, api.Ins{Op: op, A: 3, Imm: imm})
		}
	}
}

// TestEveryCallReturns calls Reads and Writes with instructions that are not right too (P1).
func TestEveryCallReturns(t *testing.T) {
	defer func() {
		if r := recover(); r != nil {
			t.Errorf("P1: a call panics: %v", r)
		}
	}()
	someIns(func(i api.Ins) {
		Reads(i)
		Writes(i)
		Target(math.MaxUint32, i)
	})
}
