package alu

import (
	"math"
	"testing"

	"simulacrum/api"
)

// calculator does operations and fails the test if there is none.
type calculator struct{ t *testing.T }

func (c calculator) do(op int, x, y uint32) uint32 {
	c.t.Helper()
	w, e := Do(op, x, y)
	if e != api.OK {
		c.t.Fatalf("Do(%d, %d, %d): error %d", op, x, y, e)
	}
	return w
}

func (c calculator) not(x uint32) uint32 { return c.do(api.OpXor, x, math.MaxUint32) }

// check fails the test if a law does not hold for some words.
func (c calculator) check(law string, holds bool, words ...uint32) {
	c.t.Helper()
	if !holds {
		c.t.Fatalf("%s does not hold for %v", law, words)
	}
}

// TestLawsOfPairs has P5.5 for two words.
func TestLawsOfPairs(t *testing.T) {
	c := calculator{t}
	words := someWords(50)
	for _, x := range words {
		c.check("P5.5: not of not", c.not(c.not(x)) == x, x)
		c.check("P5.5: 0 and 1 of the ring", c.do(api.OpAdd, x, 0) == x && c.do(api.OpMul, x, 1) == x && c.do(api.OpMul, x, 0) == 0, x)
		c.check("P5.5: a set and what is not in it", c.do(api.OpAnd, x, c.not(x)) == 0 && c.do(api.OpOr, x, c.not(x)) == math.MaxUint32, x)
		c.check("P5.5: a set with itself", c.do(api.OpAnd, x, x) == x && c.do(api.OpOr, x, x) == x && c.do(api.OpXor, x, x) == 0, x)
		for _, y := range words {
			for _, op := range []int{api.OpAdd, api.OpMul, api.OpAnd, api.OpOr, api.OpXor} {
				c.check("P5.5: commutative", c.do(op, x, y) == c.do(op, y, x), uint32(op), x, y)
			}
			c.check("P5.5: sub undoes add", c.do(api.OpSub, c.do(api.OpAdd, x, y), y) == x, x, y)
			c.check("P5.5: add undoes sub", c.do(api.OpAdd, c.do(api.OpSub, x, y), y) == x, x, y)
			c.check("P5.5: xor undoes itself", c.do(api.OpXor, c.do(api.OpXor, x, y), y) == x, x, y)
			c.check("P5.5: not of and", c.not(c.do(api.OpAnd, x, y)) == c.do(api.OpOr, c.not(x), c.not(y)), x, y)
			c.check("P5.5: not of or", c.not(c.do(api.OpOr, x, y)) == c.do(api.OpAnd, c.not(x), c.not(y)), x, y)
		}
	}
}

// TestLawsOfTriples has P5.5 for three words.
func TestLawsOfTriples(t *testing.T) {
	c := calculator{t}
	words := someWords(0)
	for _, x := range words {
		for _, y := range words {
			for _, z := range words {
				for _, op := range []int{api.OpAdd, api.OpMul, api.OpAnd, api.OpOr, api.OpXor} {
					c.check("P5.5: associative", c.do(op, c.do(op, x, y), z) == c.do(op, x, c.do(op, y, z)), uint32(op), x, y, z)
				}
				for _, l := range [][2]int{{api.OpMul, api.OpAdd}, {api.OpAnd, api.OpOr}, {api.OpOr, api.OpAnd}, {api.OpAnd, api.OpXor}} {
					c.check("P5.5: distributes", c.do(l[0], x, c.do(l[1], y, z)) == c.do(l[1], c.do(l[0], x, y), c.do(l[0], x, z)), uint32(l[0]), uint32(l[1]), x, y, z)
				}
			}
		}
	}
}

func TestDivision(t *testing.T) {
	c := calculator{t}
	words := someWords(100)
	for _, b := range words {
		for _, d := range words {
			if d == 0 {
				continue
			}
			quotient, remainder := c.do(api.OpDiv, b, d), c.do(api.OpRem, b, d)
			c.check("P5.6: the quotient times c, and the remainder", int(quotient)*int(d)+int(remainder) == int(b), b, d)
			c.check("P5.6: the remainder is less than c", c.do(api.OpSltu, remainder, d) == 1, b, d)
		}
		for k := range uint32(32) {
			p := c.do(api.OpShl, 1, k)
			c.check("P5.6: the quotient by 2^k", c.do(api.OpDiv, b, p) == c.do(api.OpShr, b, k), b, k)
			c.check("P5.6: the remainder by 2^k", c.do(api.OpRem, b, p) == c.do(api.OpAnd, b, p-1), b, k)
			c.check("P5.6: the product with 2^k", c.do(api.OpMul, b, p) == c.do(api.OpShl, b, k), b, k)
		}
	}
}

func TestOrder(t *testing.T) {
	c := calculator{t}
	words := someWords(100)
	for _, a := range words {
		for _, b := range words {
			equal := Taken(api.OpBeq, a, b)
			c.check("P5.7: bne is not beq", Taken(api.OpBne, a, b) != equal, a, b)
			for _, x := range []struct{ branch, set int }{{api.OpBlt, api.OpSlt}, {api.OpBltu, api.OpSltu}} {
				less, more := Taken(x.branch, a, b), Taken(x.branch, b, a)
				c.check("P5.7: exactly one", oneIf(less)+oneIf(more)+oneIf(equal) == 1, uint32(x.branch), a, b)
				c.check("P5.7: slt and sltu", c.do(x.set, a, b) == oneIf(less), uint32(x.set), a, b)
			}
			c.check("P5.7: the highest bit changed", Taken(api.OpBlt, a, b) == Taken(api.OpBltu, a^1<<31, b^1<<31), a, b)
			c.check("P5.7: signed values", Taken(api.OpBlt, a, b) == (Signed(a) < Signed(b)), a, b)
		}
	}
}
