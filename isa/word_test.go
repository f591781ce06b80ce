package isa

import (
	"math"
	"math/rand"
	"testing"

	"simulacrum/api"
)

// TestExampleWords has the chapter's tables.
func TestExampleWords(t *testing.T) {
	for _, x := range []struct {
		i api.Ins
		w uint32
	}{
		{api.Ins{Op: api.OpAdd, A: 1, B: 2, C: 3}, 71876608},
		{api.Ins{Op: api.OpAddi, A: 1, Imm: -1}, 1078198271},
		{api.Ins{Op: api.OpHalt}, 3221225472},
	} {
		if w, e := Encode(x.i); w != x.w || e != api.OK {
			t.Errorf("P4.2: Encode(%+v) = %d, %d, want %d", x.i, w, e, x.w)
		}
		if i, ok := Decode(x.w); i != x.i || !ok {
			t.Errorf("P4.2: Decode(%d) = %+v, %v, want %+v", x.w, i, ok, x.i)
		}
	}
	for _, w := range []uint32{71876609, 0, math.MaxUint32} {
		if i, ok := Decode(w); i != (api.Ins{}) || ok {
			t.Errorf("P4.2: Decode(%d) = %+v, %v, want none", w, i, ok)
		}
	}
}

// TestWordsByHand has a word of each form and each field, written bit by bit.
func TestWordsByHand(t *testing.T) {
	for _, x := range []struct {
		i api.Ins
		w uint32
	}{
		{api.Ins{Op: api.OpSltu, A: 15}, 0b001100_1111_0000_0000_00000000000000},
		{api.Ins{Op: api.OpSltu, B: 15}, 0b001100_0000_1111_0000_00000000000000},
		{api.Ins{Op: api.OpSltu, C: 15}, 0b001100_0000_0000_1111_00000000000000},
		{api.Ins{Op: api.OpJalr, A: 8, B: 1, Imm: api.MaxImm}, 0b100001_1000_0001_011111111111111111},
		{api.Ins{Op: api.OpBeq, A: 1, B: 8, Imm: api.MinImm}, 0b011100_0001_1000_100000000000000000},
		{api.Ins{Op: api.OpLw, Imm: 1}, 0b010100_0000_0000_000000000000000001},
		{api.Ins{Op: api.OpOut, A: 9, Imm: -2}, 0b101111_1001_0000_111111111111111110},
		{api.Ins{Op: api.OpHigh, A: 15, Imm: api.MaxImm}, 0b010001_1111_0000_011111111111111111},
		{api.Ins{Op: api.OpFlush, B: 10}, 0b101100_0000_1010_000000000000000000},
		{api.Ins{Op: api.OpEcall}, 0b101000_0000_0000_000000000000000000},
	} {
		if w, e := Encode(x.i); w != x.w || e != api.OK {
			t.Errorf("P4.2: Encode(%+v) = %b, %d, want %b", x.i, w, e, x.w)
		}
		if i, ok := Decode(x.w); i != x.i || !ok {
			t.Errorf("P4.2: Decode(%b) = %+v, %v, want %+v", x.w, i, ok, x.i)
		}
	}
}

// someIns calls f with instructions of all operations, right ones and others: those whose fields would be right modulo a power of 2 are among them.
func someIns(f func(i api.Ins)) {
	registers := []int{0, 1, 7, 15, 16, -1, 1 << 32, math.MinInt, math.MaxInt}
	imms := []int{0, 1, -1, 5, 131071, 131072, -131072, -131073, 262143, 262144, -262144, 1 << 32, 1<<32 + 5, math.MinInt, math.MaxInt}
	ops := []int{math.MinInt, math.MaxInt, 1<<32 + api.OpAdd, 1<<32 + api.OpHalt, -1<<32 + api.OpAddi}
	for op := -2; op < 130; op++ {
		ops = append(ops, op)
	}
	for _, op := range ops {
		for _, a := range registers {
			for _, b := range registers {
				for _, c := range registers {
					for _, imm := range imms {
						f(api.Ins{Op: op, A: a, B: b, C: c, Imm: imm})
					}
				}
			}
		}
	}
}

func TestRightAndEncode(t *testing.T) {
	b := chapter()
	count := 0
	someIns(func(i api.Ins) {
		right := b.right(i)
		if Right(i) != right {
			t.Fatalf("P4.1: Right(%+v) = %v", i, !right)
		}
		w, e := Encode(i)
		if !right {
			if w != 0 || e != api.ErrArg {
				t.Fatalf("P4.2: Encode(%+v) = %d, %d, want 0 and ErrArg", i, w, e)
			}
			return
		}
		count++
		if w != b.word(i) || e != api.OK {
			t.Fatalf("P4.2: Encode(%+v) = %d, %d, want %d", i, w, e, b.word(i))
		}
		if back, ok := Decode(w); back != i || !ok {
			t.Fatalf("P4.8: Decode(Encode(%+v)) = %+v, %v", i, back, ok)
		}
	})
	// 12 operations with 4 registers in three fields, 11 with two registers and 6 numbers, 6 with one of them, flush, and 4 without fields.
	if want := 12*4*4*4 + 11*4*4*6 + 6*4*6 + 4 + 4; count != want {
		t.Errorf("P4.1: %d right instructions, want %d", count, want)
	}
}

// TestOneWrongField has right instructions in which one field is made wrong.
func TestOneWrongField(t *testing.T) {
	for _, r := range rules() {
		base := api.Ins{Op: r.op}
		if !Right(base) {
			t.Errorf("P4.1: %s with all fields 0 is not right", r.name)
		}
		for _, x := range []struct {
			field string
			set   func(i *api.Ins, n int)
			least int
			most  int
		}{
			{"A", func(i *api.Ins, n int) { i.A = n }, 0, 15},
			{"B", func(i *api.Ins, n int) { i.B = n }, 0, 15},
			{"C", func(i *api.Ins, n int) { i.C = n }, 0, 15},
			{"I", func(i *api.Ins, n int) { i.Imm = n }, api.MinImm, api.MaxImm},
		} {
			for _, n := range []int{x.least - 1, x.least, 1, x.most, x.most + 1} {
				i := base
				x.set(&i, n)
				has := false
				for _, f := range r.fields {
					has = has || string(f) == x.field
				}
				want := n == 0 || has && n >= x.least && n <= x.most
				if Right(i) != want {
					t.Errorf("P4.1: %s with %s = %d: Right is %v", r.name, x.field, n, !want)
				}
				if _, e := Encode(i); (e == api.OK) != want || !want && e != api.ErrArg {
					t.Errorf("P4.2: %s with %s = %d: Encode gives %d", r.name, x.field, n, e)
				}
			}
		}
	}
}

// checkWord checks what Decode says of a word.
func checkWord(t *testing.T, b book, w uint32) {
	want, ok := b.ins(w)
	if !ok {
		want = api.Ins{}
	}
	i, got := Decode(w)
	if i != want || got != ok {
		t.Fatalf("P4.2: Decode(%d) = %+v, %v, want %+v, %v", w, i, got, want, ok)
	}
	if !got {
		return
	}
	if !Right(i) {
		t.Fatalf("P4.2: Decode(%d) = %+v, which is not right", w, i)
	}
	if back, e := Encode(i); back != w || e != api.OK {
		t.Fatalf("P4.8: Encode(Decode(%d)) = %d, %d", w, back, e)
	}
}

// TestDecode has words of all numbers of operations: with all registers and some low bits, with all low bits and few registers, and any.
func TestDecode(t *testing.T) {
	b := chapter()
	var low []uint32
	for k := range 18 {
		low = append(low, 1<<k, 1<<k-1, 1<<18-1<<k)
	}
	for op := range uint32(64) {
		for registers := range uint32(256) {
			for _, l := range low {
				checkWord(t, b, op<<26|registers<<18|l)
			}
		}
	}
	step := uint32(1)
	if testing.Short() {
		step = 61
	}
	for op := range uint32(64) {
		for l := uint32(0); l < 1<<18; l += step {
			checkWord(t, b, op<<26|l)
		}
	}
	r := rand.New(rand.NewSource(4))
	for range 200000 {
		checkWord(t, b, r.Uint32())
	}
}

// TestLegalWords counts the words of each operation that are legal, with the registers 0 to 3 in A and B.
func TestLegalWords(t *testing.T) {
	for _, r := range rules() {
		want := map[int]int{api.FmThree: 4 * 4 * 16, api.FmTwo: 4 * 4 << 18, api.FmOne: 4 << 18, api.FmB: 4, api.FmNone: 1}[r.form]
		if testing.Short() && want > 1<<18 {
			continue
		}
		count := 0
		for a := range uint32(4) {
			for b := range uint32(4) {
				for low := range uint32(1 << 18) {
					if _, ok := Decode(uint32(r.op)<<26 | a<<22 | b<<18 | low); ok {
						count++
					}
				}
			}
		}
		if count != want {
			t.Errorf("P4.8: %d words of %s, want %d", count, r.name, want)
		}
	}
}

// TestWordsDiffer is P4.8 for instructions of all operations.
func TestWordsDiffer(t *testing.T) {
	b := chapter()
	seen := map[uint32]api.Ins{}
	someIns(func(i api.Ins) {
		if !b.right(i) {
			return
		}
		w, _ := Encode(i)
		if other, ok := seen[w]; ok && other != i {
			t.Fatalf("P4.8: %+v and %+v have the word %d", i, other, w)
		}
		seen[w] = i
	})
}

// FuzzIns looks for an instruction or a word on which a function panics (P1), or decides otherwise than the chapter's rules (P4.1, P4.2, P4.6, P4.7).
func FuzzIns(f *testing.F) {
	f.Add(api.OpAdd, 1, 2, 3, 0, uint32(71876608))
	f.Add(api.OpBeq, 1, 1, 0, -2, uint32(4))
	f.Add(api.OpHalt, 0, 0, 0, 0, uint32(3221225472))
	f.Add(-1, 16, -1, math.MaxInt, math.MinInt, uint32(math.MaxUint32))
	f.Fuzz(func(t *testing.T, op, a, b, c, imm int, w uint32) {
		rules := chapter()
		checkWord(t, rules, w)
		i := api.Ins{Op: op, A: a, B: b, C: c, Imm: imm}
		right := rules.right(i)
		got, e := Encode(i)
		if Right(i) != right || (e == api.OK) != right || right && got != rules.word(i) || !right && (got != 0 || e != api.ErrArg) {
			t.Errorf("P4.1, P4.2: %+v: %v, %d, %d", i, Right(i), got, e)
		}
		checkUse(t, rules, i)
		checkTarget(t, rules, w, i)
	})
}
