package alu

import (
	"math"
	"testing"

	"simulacrum/api"
)

// TestExampleOperations has the chapter's examples, and the words at which an operation has a case of its own.
func TestExampleOperations(t *testing.T) {
	for _, x := range []struct {
		op   int
		b, c uint32
		want uint32
	}{
		{api.OpSub, 3, 5, math.MaxUint32 - 1},
		{api.OpDiv, 7, 0, math.MaxUint32},
		{api.OpRem, 7, 0, 7},
		{api.OpShl, 1, 33, 2},
		{api.OpSlt, math.MaxUint32, 0, 1},
		{api.OpSltu, math.MaxUint32, 0, 0},
		{api.OpAdd, math.MaxUint32, 2, 1},
		{api.OpSub, 0, 1, math.MaxUint32},
		{api.OpAnd, 0b1100, 0b1010, 0b1000},
		{api.OpOr, 0b1100, 0b1010, 0b1110},
		{api.OpXor, 0b1100, 0b1010, 0b0110},
		{api.OpShl, 3, 0, 3},
		{api.OpShl, 3, 31, 1 << 31},
		{api.OpShl, 3, 32, 3},
		{api.OpShl, 3, math.MaxUint32, 1 << 31},
		{api.OpShr, math.MaxUint32, 31, 1},
		{api.OpShr, 1 << 31, 31, 1},
		{api.OpShr, 7, 1, 3},
		{api.OpShr, 7, 32, 7},
		{api.OpShr, 7, 33, 3},
		{api.OpMul, 1 << 16, 1 << 16, 0},
		{api.OpMul, math.MaxUint32, math.MaxUint32, 1},
		{api.OpDiv, 7, 2, 3},
		{api.OpDiv, 0, 0, math.MaxUint32},
		{api.OpDiv, 0, 5, 0},
		{api.OpDiv, math.MaxUint32, 2, math.MaxInt32}, // -1 / 2 and 2^31 / -1 would differ if words were signed
		{api.OpDiv, 1 << 31, math.MaxUint32, 0},
		{api.OpRem, 0, 0, 0},
		{api.OpRem, 1 << 31, math.MaxUint32, 1 << 31},
		{api.OpRem, math.MaxUint32, 10, 5},
		{api.OpSlt, 1 << 31, math.MaxInt32, 1},
		{api.OpSlt, math.MaxInt32, 1 << 31, 0},
		{api.OpSlt, 5, 5, 0},
		{api.OpSltu, 1 << 31, math.MaxInt32, 0},
		{api.OpSltu, math.MaxInt32, 1 << 31, 1},
		{api.OpSltu, 5, 5, 0},
	} {
		if got, e := Do(x.op, x.b, x.c); got != x.want || e != api.OK {
			t.Errorf("P5.1: Do(%d, %d, %d) = %d, %d, want %d", x.op, x.b, x.c, got, e, x.want)
		}
	}
}

func TestDo(t *testing.T) {
	words := someWords(30)
	for op := 1; op <= 12; op++ {
		for _, b := range words {
			for _, c := range words {
				want, _ := doRule(op, b, c)
				if got, e := Do(op, b, c); got != want || e != api.OK {
					t.Fatalf("P5.1: Do(%d, %d, %d) = %d, %d, want %d", op, b, c, got, e, want)
				}
			}
		}
	}
}

// TestNoOperation has numbers that are no operations of the chapter's table, among them those of other instructions.
func TestNoOperation(t *testing.T) {
	count := 0
	for _, op := range someOps() {
		for _, c := range []uint32{0, 5, math.MaxUint32} {
			want, wantE := doRule(op, 7, c)
			got, e := Do(op, 7, c)
			if got != want || e != wantE {
				t.Errorf("P5.1: Do(%d, 7, %d) = %d, %d, want %d, %d", op, c, got, e, want, wantE)
			}
			if e == api.OK {
				count++
			}
		}
	}
	if count != 12*3 {
		t.Errorf("P5.1: %d results, want 36", count)
	}
	for _, op := range []int{0, 13, -1, api.OpAddi, api.OpBeq, api.OpJal, api.OpHalt} {
		if got, e := Do(op, 1, 2); got != 0 || e != api.ErrArg {
			t.Errorf("P5.1: Do(%d, 1, 2) = %d, %d, want ErrArg", op, got, e)
		}
	}
}

func TestExampleBranches(t *testing.T) {
	for _, x := range []struct {
		op   int
		a, b uint32
		want bool
	}{
		{api.OpBlt, 1 << 31, 0, true},
		{api.OpBltu, 1 << 31, 0, false},
		{api.OpBlt, 0, 1 << 31, false},
		{api.OpBltu, 0, 1 << 31, true},
		{api.OpBlt, math.MaxUint32, 0, true},
		{api.OpBlt, 4, 4, false},
		{api.OpBltu, 4, 4, false},
		{api.OpBeq, 4, 4, true},
		{api.OpBeq, 4, 5, false},
		{api.OpBne, 4, 4, false},
		{api.OpBne, 0, math.MaxUint32, true},
		{api.OpBeq, 1, 1<<31 + 1, false},
		{api.OpSlt, math.MaxUint32, 0, false},
		{api.OpSltu, 0, 1, false},
		{api.OpJal, 4, 4, false},
		{0, 4, 4, false},
	} {
		if got := Taken(x.op, x.a, x.b); got != x.want {
			t.Errorf("P5.2: Taken(%d, %d, %d) = %v", x.op, x.a, x.b, got)
		}
	}
}

func TestTaken(t *testing.T) {
	words := someWords(30)
	for op := 28; op <= 31; op++ {
		for _, a := range words {
			for _, b := range words {
				if got := Taken(op, a, b); got != takenRule(op, a, b) {
					t.Fatalf("P5.2: Taken(%d, %d, %d) = %v", op, a, b, got)
				}
			}
		}
	}
	for _, op := range someOps() {
		for _, a := range []uint32{0, 4, 1 << 31} {
			for _, b := range []uint32{0, 4, 1 << 31} {
				if got := Taken(op, a, b); got != takenRule(op, a, b) {
					t.Errorf("P5.2: Taken(%d, %d, %d) = %v", op, a, b, got)
				}
			}
		}
	}
}

// TestEveryCallReturns has the arguments for which the chapter specifies no result too (P1).
func TestEveryCallReturns(t *testing.T) {
	defer func() {
		if r := recover(); r != nil {
			t.Errorf("P1: a call panics: %v", r)
		}
	}()
	for _, n := range append(someOps(), someIndexes()...) {
		for _, x := range []uint32{0, 1, 1 << 31, math.MaxUint32} {
			Do(n, x, 0)
			Taken(n, x, 0)
			Extend(x, n)
			Byte(x, n)
			SetByte(x, n, 255)
		}
	}
}

// FuzzWords looks for arguments on which a function panics (P1), or has another result than the chapter's rules (P5.1 to P5.4).
func FuzzWords(f *testing.F) {
	f.Add(api.OpSub, uint32(3), uint32(5), 18, byte(1))
	f.Add(api.OpDiv, uint32(7), uint32(0), -1, byte(255))
	f.Add(api.OpBlt, uint32(1<<31), uint32(0), 32, byte(0))
	f.Add(math.MinInt, uint32(math.MaxUint32), uint32(33), math.MinInt, byte(128))
	f.Fuzz(func(t *testing.T, op int, b, c uint32, n int, v byte) {
		for _, op := range []int{op, op & 63} {
			want, wantE := doRule(op, b, c)
			if got, e := Do(op, b, c); got != want || e != wantE {
				t.Errorf("P5.1: Do(%d, %d, %d) = %d, %d, want %d, %d", op, b, c, got, e, want, wantE)
			}
			if got := Taken(op, b, c); got != takenRule(op, b, c) {
				t.Errorf("P5.2: Taken(%d, %d, %d) = %v", op, b, c, got)
			}
		}
		checkExtend(t, b, n&31+1)
		checkByte(t, b, n, v)
		Extend(b, n)
	})
}

func BenchmarkDo(b *testing.B) {
	b.ReportAllocs()
	for n := range b.N {
		Do(n%12+1, 3, uint32(n))
	}
}

func BenchmarkTaken(b *testing.B) {
	b.ReportAllocs()
	for n := range b.N {
		Taken(n%4+api.OpBeq, 3, uint32(n))
	}
}
