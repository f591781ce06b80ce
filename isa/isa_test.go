package isa

import (
	"math"
	"strings"
	"testing"

	"simulacrum/api"
)

// someNumbers returns numbers of operations, and numbers that are none: some of them are those of operations modulo 2^6, 2^8 or 2^32.
func someNumbers() []int {
	out := []int{math.MinInt, math.MinInt + 1, math.MaxInt, 1 << 32, -1 << 32}
	for n := -300; n <= 600; n++ {
		out = append(out, n, n+1<<32, n-1<<32)
	}
	return out
}

func TestOperations(t *testing.T) {
	for _, x := range []struct {
		ops   []int
		names string
	}{
		{[]int{api.OpAdd, api.OpSub, api.OpAnd, api.OpOr, api.OpXor, api.OpShl, api.OpShr, api.OpMul, api.OpDiv, api.OpRem, api.OpSlt, api.OpSltu}, "add sub and or xor shl shr mul div rem slt sltu"},
		{[]int{api.OpAddi, api.OpLw, api.OpSw, api.OpLb, api.OpSb, api.OpSwap, api.OpBeq, api.OpBne, api.OpBlt, api.OpBltu, api.OpJalr}, "addi lw sw lb sb swap beq bne blt bltu jalr"},
		{[]int{api.OpHigh, api.OpJal, api.OpCsrr, api.OpCsrw, api.OpIn, api.OpOut}, "high jal csrr csrw in out"},
		{[]int{api.OpFlush}, "flush"},
		{[]int{api.OpEcall, api.OpEret, api.OpWait, api.OpHalt}, "ecall eret wait halt"},
	} {
		for k, name := range strings.Fields(x.names) {
			if Name(x.ops[k]) != name || Find(name) != x.ops[k] {
				t.Errorf("P4.3: Name(%d) = %q, Find(%q) = %d", x.ops[k], Name(x.ops[k]), name, Find(name))
			}
		}
	}
}

func TestForm(t *testing.T) {
	b := chapter()
	for _, op := range someNumbers() {
		if got := Form(op); got != b[op].form {
			t.Errorf("P4.1: Form(%d) = %d, want %d", op, got, b[op].form)
		}
	}
	if len(b) != 34 || Form(api.OpSltu) != api.FmThree || Form(api.OpJalr) != api.FmTwo || Form(api.OpOut) != api.FmOne || Form(api.OpFlush) != api.FmB || Form(api.OpHalt) != api.FmNone {
		t.Error("P4.1: the forms of api")
	}
}

func TestName(t *testing.T) {
	b := chapter()
	for _, op := range someNumbers() {
		if got := Name(op); got != b[op].name {
			t.Errorf("P4.3: Name(%d) = %q, want %q", op, got, b[op].name)
		}
	}
}

func TestFind(t *testing.T) {
	b := chapter()
	ops := map[string]int{}
	for op, r := range b {
		ops[r.name] = op
	}
	check := func(name string) {
		if got := Find(name); got != ops[name] {
			t.Errorf("P4.3: Find(%q) = %d, want %d", name, got, ops[name])
		}
	}
	for name := range ops {
		check(name)
		for k := range len(name) { // texts that are nearly the name
			check(name[:k])
			check(name[k:])
			check(name[:k] + name[k+1:])
			check(name[:k] + strings.ToUpper(name[k:k+1]) + name[k+1:])
			check(name[:k] + "\x00" + name[k:])
		}
		check(strings.ToUpper(name))
		for c := range 256 {
			check(name + string([]byte{byte(c)}))
			check(string([]byte{byte(c)}) + name)
		}
	}
	for _, name := range []string{"", " ", "0", "1", "nop", "and or", "Add", "addi1", "csr", "\xff", strings.Repeat("a", 1000)} {
		check(name)
	}
}

// TestNamesDiffer is P4.9.
func TestNamesDiffer(t *testing.T) {
	seen := map[string]int{}
	for _, op := range someNumbers() {
		name := Name(op)
		if Form(op) == 0 {
			if name != "" {
				t.Errorf("P4.3: %d is no operation, but its name is %q", op, name)
			}
			continue
		}
		if Find(name) != op {
			t.Errorf("P4.9: Find(Name(%d)) = %d", op, Find(name))
		}
		if other, ok := seen[name]; ok && other != op {
			t.Errorf("P4.9: %d and %d have the name %q", op, other, name)
		}
		seen[name] = op
		if name == "" || strings.Trim(name, "abcdefghijklmnopqrstuvwxyz") != "" {
			t.Errorf("P4.9: the name %q of %d has not small letters alone", name, op)
		}
	}
	if len(seen) != 34 {
		t.Errorf("P4.9: %d names", len(seen))
	}
}

func TestPrivileged(t *testing.T) {
	b := chapter()
	for _, op := range someNumbers() {
		if got := Privileged(op); got != b[op].privileged {
			t.Errorf("P4.4: Privileged(%d) = %v", op, got)
		}
	}
}

func TestAccess(t *testing.T) {
	b := chapter()
	for _, op := range someNumbers() {
		if access, size := Access(op); access != b[op].access || size != b[op].size {
			t.Errorf("P4.5: Access(%d) = %d, %d, want %d, %d", op, access, size, b[op].access, b[op].size)
		}
	}
	if access, size := Access(api.OpSwap); access != api.AxSwap || size != 4 {
		t.Errorf("P4.5: Access of swap = %d, %d", access, size)
	}
	if access, _ := Access(api.OpLw); access != api.AxLoad {
		t.Errorf("P4.5: Access of lw = %d", access)
	}
	if access, _ := Access(api.OpSb); access != api.AxStore {
		t.Errorf("P4.5: Access of sb = %d", access)
	}
	if access, _ := Access(api.OpAddi); access != api.AxNone {
		t.Errorf("P4.5: Access of addi = %d", access)
	}
}
