package merkle

import (
	"encoding/hex"
	"math"
	"math/rand"
	"slices"
	"strings"
	"testing"

	"simulacrum/api"
)

func TestLeafAndNode(t *testing.T) {
	a, b, c := Leaf("a"), Leaf("b"), Leaf("c")
	for _, x := range []struct {
		got  api.Digest
		want string
	}{
		{Leaf(""), "a408e4962b09eeb917c2bcea0d94ddae"},
		{a, "525c855a10bc83a3fdb99c61d37917b0"},
		{b, "1a602f33cb087ad2c8f3925e112ad4ab"},
		{c, "30872270fdd8b1387fad2fa7041980d7"},
		{Leaf(strings.Repeat("x", 1000)), "a49b3c289c1f175387519e0069753cc6"},
		{Node(a, b), "032ce042e90096d95291eed014289059"},
		{Node(b, a), "0c13fe89ccb69d0b3bd636824bad274f"},
		{Node(Node(a, b), c), "c77ebbb148a26c89de0595a85c86650c"},
		{Node(api.Digest{}, api.Digest{}), "7e2f35177aece2789710a674b2d4f6d5"},
		{Root(nil), "36a9e7f1c95b82ffb99743e0c5c4ce95"},
	} {
		if hex.EncodeToString(x.got[:]) != x.want {
			t.Errorf("P3.1: %x, want %s", x.got, x.want)
		}
	}
	for _, data := range []string{"", "\x00", "abc", string(a[:]) + string(b[:])} {
		if d := Leaf(data); d != ruleOf(30, data) {
			t.Errorf("P3.1: Leaf(%q) = %x", data, d)
		}
	}
}

func TestRoot(t *testing.T) {
	a, b, c, d, e := Leaf("a"), Leaf("b"), Leaf("c"), Leaf("d"), Leaf("e")
	for _, x := range []struct {
		leaves []api.Digest
		want   api.Digest
	}{
		{nil, ruleOf(32)},
		{[]api.Digest{}, ruleOf(32)},
		{[]api.Digest{a}, a},
		{[]api.Digest{{}}, api.Digest{}},
		{[]api.Digest{a, b}, Node(a, b)},
		{[]api.Digest{a, b, c}, Node(Node(a, b), c)},
		{[]api.Digest{a, b, c, d}, Node(Node(a, b), Node(c, d))},
		{[]api.Digest{a, b, c, d, e}, Node(Node(Node(a, b), Node(c, d)), e)},
		{[]api.Digest{a, b, c, d, e, a}, Node(Node(Node(a, b), Node(c, d)), Node(e, a))},
		{[]api.Digest{a, a, a}, Node(Node(a, a), a)},
	} {
		if root := Root(x.leaves); root != x.want {
			t.Errorf("P3.1: Root(%x) = %x, want %x", x.leaves, root, x.want)
		}
	}
	all := someLeaves(300)
	for n := range len(all) + 1 {
		if root, want := Root(all[:n]), listOf(all[:n]).root(0, n); root != want {
			t.Fatalf("P3.1: the root of %d leaves is %x, want %x", n, root, want)
		}
	}
	if !slices.Equal(all, someLeaves(300)) {
		t.Error("P3.1: Root has changed its argument")
	}
}

// TestRootOfManyLeaves has lists near a power of 2.
func TestRootOfManyLeaves(t *testing.T) {
	l := listOf([]api.Digest{Leaf("first")})
	leaves := make([]api.Digest, 1<<14+1)
	for i := range leaves {
		leaves[i] = l.at(i)
	}
	for _, n := range []int{1<<14 - 1, 1 << 14, 1<<14 + 1} {
		if root, want := Root(leaves[:n]), l.root(0, n); root != want {
			t.Errorf("P3.1: the root of %d leaves is %x, want %x", n, root, want)
		}
	}
}

// TestExamples has the table of the chapter.
func TestExamples(t *testing.T) {
	a, b, c := Leaf("a"), Leaf("b"), Leaf("c")
	leaves := []api.Digest{a, b, c}
	if Root(leaves) != Node(Node(a, b), c) {
		t.Errorf("P3.1: the root is %x", Root(leaves))
	}
	check := func(what string, got []api.Digest, e api.Errno, want ...api.Digest) {
		if e != api.OK || !slices.Equal(got, want) {
			t.Errorf("%s = %x, %d, want %x", what, got, e, want)
		}
	}
	path, e := Inclusion(leaves, 0)
	check("P3.2: Inclusion of 0", path, e, b, c)
	path, e = Inclusion(leaves, 1)
	check("P3.2: Inclusion of 1", path, e, a, c)
	path, e = Inclusion(leaves, 2)
	check("P3.2: Inclusion of 2", path, e, Node(a, b))
	path, e = Consistency(leaves, 0)
	check("P3.3: Consistency with 0", path, e)
	path, e = Consistency(leaves, 1)
	check("P3.3: Consistency with 1", path, e, b, c)
	path, e = Consistency(leaves, 2)
	check("P3.3: Consistency with 2", path, e, c)
	path, e = Consistency(leaves, 3)
	check("P3.3: Consistency with 3", path, e)
	path, e = Many(leaves, []int{0, 2})
	check("P3.4: Many of 0 and 2", path, e, b)
	path, e = Many(leaves, nil)
	check("P3.4: Many of nothing", path, e, Node(Node(a, b), c))
	var p api.Peaks
	for _, leaf := range leaves {
		p, e = Append(p, leaf)
	}
	check("P3.5: the peaks of three leaves", p.Tops, e, Node(a, b), c)
}

func TestInclusion(t *testing.T) {
	all := someLeaves(130)
	for n := range len(all) + 1 {
		l := listOf(all[:n])
		for i := range n {
			if path, e := Inclusion(all[:n], i); e != api.OK || !slices.Equal(path, l.inclusion(0, n, i)) {
				t.Fatalf("P3.2: Inclusion of %d in %d leaves = %x, %d, want %x", i, n, path, e, l.inclusion(0, n, i))
			}
		}
		for _, i := range []int{-1, n, n + 1, -n - 1, math.MaxInt, math.MinInt, 1 << 32, -1 << 32} {
			if path, e := Inclusion(all[:n], i); e != api.ErrArg || len(path) != 0 {
				t.Fatalf("P3.2: Inclusion of %d in %d leaves = %x, %d, want ErrArg", i, n, path, e)
			}
		}
	}
	if !slices.Equal(all, someLeaves(130)) {
		t.Error("P3.2: Inclusion has changed its argument")
	}
}

func TestConsistency(t *testing.T) {
	all := someLeaves(130)
	for n := range len(all) + 1 {
		l := listOf(all[:n])
		for m := range n + 1 {
			if path, e := Consistency(all[:n], m); e != api.OK || !slices.Equal(path, l.consistency(n, m)) {
				t.Fatalf("P3.3: Consistency of %d with %d leaves = %x, %d, want %x", n, m, path, e, l.consistency(n, m))
			}
		}
		for _, m := range []int{-1, n + 1, -n - 1, math.MaxInt, math.MinInt} {
			if path, e := Consistency(all[:n], m); e != api.ErrArg || len(path) != 0 {
				t.Fatalf("P3.3: Consistency of %d with %d leaves = %x, %d, want ErrArg", n, m, path, e)
			}
		}
	}
	if !slices.Equal(all, someLeaves(130)) {
		t.Error("P3.3: Consistency has changed its argument")
	}
}

func TestMany(t *testing.T) {
	r := rand.New(rand.NewSource(31))
	all := someLeaves(130)
	check := func(n int, places []int) {
		was := slices.Clone(places)
		want := listOf(all[:n]).many(0, n, places)
		if path, e := Many(all[:n], places); e != api.OK || !slices.Equal(path, want) {
			t.Fatalf("P3.4: Many of %v in %d leaves = %x, %d, want %x", places, n, path, e, want)
		}
		if !slices.Equal(places, was) {
			t.Fatalf("P3.4: Many has changed the places %v", was)
		}
	}
	for n := range 10 {
		for set := range 1 << n {
			check(n, bitsOf(set))
		}
	}
	for n := range len(all) + 1 {
		for range 10 {
			check(n, somePlaces(r, n))
		}
		check(n, nil)
		check(n, []int{})
		check(n, bitsOf(0))
		if n > 0 {
			check(n, []int{0})
			check(n, []int{n - 1})
		}
	}
	if !slices.Equal(all, someLeaves(130)) {
		t.Error("P3.4: Many has changed its argument")
	}
}

func TestManyOfNoPlaces(t *testing.T) {
	for _, x := range []struct {
		n      int
		places []int
	}{
		{0, []int{0}}, {0, []int{-1}}, {1, []int{1}}, {1, []int{0, 0}}, {1, []int{0, 1}}, {1, []int{-1, 0}},
		{3, []int{3}}, {3, []int{-1}}, {3, []int{0, 0}}, {3, []int{1, 0}}, {3, []int{0, 2, 1}}, {3, []int{0, 1, 1}}, {3, []int{0, 1, 2, 3}},
		{3, []int{2, 3}}, {3, []int{math.MinInt}}, {3, []int{math.MaxInt}}, {3, []int{math.MinInt, 0}}, {3, []int{0, math.MaxInt}}, {3, []int{1, math.MinInt}},
		{8, []int{4, 3}}, {8, []int{7, 0}}, {8, []int{0, 4, 4, 7}}, {8, []int{0, 8}},
	} {
		if path, e := Many(someLeaves(x.n), x.places); e != api.ErrArg || len(path) != 0 {
			t.Errorf("P3.4: Many of %v in %d leaves = %x, %d, want ErrArg", x.places, x.n, path, e)
		}
	}
}

// TestProofsAreNewMemory changes leaves and proofs, and looks whether the others follow.
func TestProofsAreNewMemory(t *testing.T) {
	proofs := func(leaves []api.Digest) [][]api.Digest {
		i, _ := Inclusion(leaves, 1)
		c, _ := Consistency(leaves, 1)
		m, _ := Many(leaves, []int{1})
		return [][]api.Digest{i, c, m}
	}
	for n := 2; n < 10; n++ {
		leaves := someLeaves(n)
		for _, p := range proofs(leaves) {
			was := slices.Clone(p)
			clear(leaves)
			if !slices.Equal(p, was) {
				t.Errorf("P3.5: a proof for %d leaves changes with them", n)
			}
			leaves = someLeaves(n)
		}
		for _, p := range proofs(leaves) {
			clear(p[:cap(p)])
			if !slices.Equal(leaves, someLeaves(n)) {
				t.Errorf("P3.5: %d leaves change with a proof", n)
			}
		}
		for _, p := range proofs(leaves[:n:n]) {
			_ = append(p, Leaf("more"))
			if !slices.Equal(leaves, someLeaves(n)) {
				t.Errorf("P3.5: %d leaves change with a proof that goes on", n)
			}
		}
	}
}
