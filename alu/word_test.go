package alu

import (
	"math"
	"testing"
)

func TestExampleWords(t *testing.T) {
	for x, want := range map[uint32]int{0: 0, 1: 1, math.MaxInt32: math.MaxInt32, 1 << 31: -2147483648, 1<<31 + 1: -2147483647, math.MaxUint32: -1} {
		if got := Signed(x); got != want {
			t.Errorf("P5.3: Signed(%d) = %d, want %d", x, got, want)
		}
	}
	for _, x := range []struct {
		x    uint32
		bits int
		want uint32
	}{
		{0x1ffff, 18, 0x1ffff},
		{0x20000, 18, 0xfffe0000},
		{0x3ffff, 18, 0xffffffff},
		{0xfffc0001, 18, 1}, // higher bits of x do not count
		{0, 1, 0},
		{1, 1, 0xffffffff},
		{2, 1, 0},
		{0x7f, 8, 0x7f},
		{0x180, 8, 0xffffff80},
		{0x7fffffff, 31, 0xffffffff},
		{0xbfffffff, 31, 0x3fffffff},
		{0x80000000, 32, 0x80000000},
		{0x7fffffff, 32, 0x7fffffff},
	} {
		if got := Extend(x.x, x.bits); got != x.want {
			t.Errorf("P5.3: Extend(%#x, %d) = %#x, want %#x", x.x, x.bits, got, x.want)
		}
	}
	for k, want := range map[int]byte{0: 4, 1: 3, 2: 2, 3: 1, -1: 1, -2: 2, -3: 3, -4: 4, 4: 4, 7: 1, math.MinInt: 4, math.MaxInt: 1} {
		if got := Byte(0x01020304, k); got != want {
			t.Errorf("P5.4: Byte(0x01020304, %d) = %d, want %d", k, got, want)
		}
	}
	for k, want := range map[int]uint32{1: 0x0102ff04, 0: 0x010203ff, 2: 0x01ff0304, 3: 0xff020304, -1: 0xff020304, -4: 0x010203ff, 5: 0x0102ff04, math.MinInt: 0x010203ff, math.MaxInt: 0xff020304} {
		if got := SetByte(0x01020304, k, 255); got != want {
			t.Errorf("P5.4: SetByte(0x01020304, %d, 255) = %#x, want %#x", k, got, want)
		}
	}
}

func TestSigned(t *testing.T) {
	for _, x := range someWords(10000) {
		if got := Signed(x); got != signedRule(x) {
			t.Fatalf("P5.3: Signed(%d) = %d, want %d", x, got, signedRule(x))
		}
	}
}

// checkExtend checks P5.3, and P5.8 for Extend.
func checkExtend(t *testing.T, x uint32, bits int) {
	got := Extend(x, bits)
	if want := extendRule(x, bits); got != want {
		t.Fatalf("P5.3: Extend(%#x, %d) = %#x, want %#x", x, bits, got, want)
	}
	if again := Extend(got, bits); again != got {
		t.Fatalf("P5.8: Extend(Extend(%#x, %d)) = %#x, not %#x", x, bits, again, got)
	}
	least, most := -(1 << (bits - 1)), 1<<(bits-1)-1
	if s := Signed(got); s < least || s > most {
		t.Fatalf("P5.8: the signed value of Extend(%#x, %d) is %d", x, bits, s)
	}
}

func TestExtend(t *testing.T) {
	for _, x := range someWords(300) {
		for bits := 1; bits <= 32; bits++ {
			checkExtend(t, x, bits)
		}
	}
}

// TestExtendOfFewBits has all words of up to 10 bits: their signed values are all from the least to the most, each once (P5.8).
func TestExtendOfFewBits(t *testing.T) {
	for bits := 1; bits <= 10; bits++ {
		seen := map[int]bool{}
		for x := range uint32(1 << bits) {
			s := Signed(Extend(x, bits))
			if want := int(x) - int(x>>(bits-1))<<bits; s != want {
				t.Errorf("P5.3: the signed value of Extend(%d, %d) is %d, want %d", x, bits, s, want)
			}
			seen[s] = true
		}
		if len(seen) != 1<<bits {
			t.Errorf("P5.8: %d signed values of %d bits", len(seen), bits)
		}
	}
}

// checkByte checks P5.4, and P5.8 for bytes.
func checkByte(t *testing.T, x uint32, k int, v byte) {
	parts := bytesRule(x)
	if got := Byte(x, k); got != parts[index(k)] {
		t.Fatalf("P5.4: Byte(%#x, %d) = %d, want %d", x, k, got, parts[index(k)])
	}
	parts[index(k)] = v
	set := SetByte(x, k, v)
	if set != ofBytes(parts) {
		t.Fatalf("P5.4: SetByte(%#x, %d, %d) = %#x, want %#x", x, k, v, set, ofBytes(parts))
	}
	for i := range 4 {
		if i != index(k) && Byte(set, i) != Byte(x, i) || i == index(k) && Byte(set, i) != v {
			t.Fatalf("P5.8: the byte %d of SetByte(%#x, %d, %d) is %d", i, x, k, v, Byte(set, i))
		}
	}
	made := SetByte(SetByte(SetByte(SetByte(^x, 0, Byte(x, 0)), 1, Byte(x, 1)), 2, Byte(x, 2)), 3, Byte(x, 3))
	if made != x {
		t.Fatalf("P5.8: the bytes of %#x make %#x", x, made)
	}
}

func TestBytes(t *testing.T) {
	for _, x := range someWords(100) {
		for _, k := range someIndexes() {
			for _, v := range []byte{0, 1, 127, 128, 255} {
				checkByte(t, x, k, v)
			}
		}
	}
	for v := range 256 {
		for k := range 4 {
			checkByte(t, 0x5a00ffa5, k, byte(v))
		}
	}
}
