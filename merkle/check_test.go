package merkle

import (
	"math"
	"math/rand"
	"slices"
	"testing"

	"simulacrum/api"
)

var other = ruleOf(30, "other")

// farPlaces returns positions of a list of n elements, for large n.
func farPlaces(r *rand.Rand, n int) []int {
	places := []int{0, 1, n / 2, n/2 + 1, n - 2, n - 1}
	for range 4 {
		places = append(places, r.Intn(n))
	}
	slices.Sort(places)
	return slices.Compact(places)
}

// farSizes returns large numbers of elements, the greatest one among them.
func farSizes(r *rand.Rand) []int {
	sizes := []int{1 << 20, 1<<31 - 1, 1 << 32, 1<<32 + 1, 1<<39 - 1, 1 << 39, 1<<39 + 1, maxLeaves - 1<<20 + 5, maxLeaves - 1, maxLeaves}
	for range 6 {
		sizes = append(sizes, 1<<16+r.Intn(maxLeaves-1<<16))
	}
	return sizes
}

func TestCheckInclusion(t *testing.T) {
	all := someLeaves(40)
	for n := range len(all) + 1 {
		leaves := all[:n]
		root := Root(leaves)
		for i := range n {
			path, _ := Inclusion(leaves, i)
			if !CheckInclusion(leaves[i], i, n, path, root) {
				t.Fatalf("P3.2, P3.6: the proof of %d in %d leaves is refused", i, n)
			}
			if CheckInclusion(other, i, n, path, root) || CheckInclusion(leaves[i], i, n, path, other) || CheckInclusion(root, i, n, path, root) != (n == 1) {
				t.Fatalf("P3.2, P3.7: another leaf or root of %d in %d leaves is accepted", i, n)
			}
			for _, wrong := range changed(path) {
				if CheckInclusion(leaves[i], i, n, wrong, root) {
					t.Fatalf("P3.2: a changed proof of %d in %d leaves is accepted", i, n)
				}
			}
			for j := range n {
				if j != i && (CheckInclusion(leaves[i], j, n, path, root) || CheckInclusion(leaves[j], i, n, path, root)) {
					t.Fatalf("P3.2, P3.7: the proof of %d in %d leaves is accepted for %d", i, n, j)
				}
			}
			for _, j := range []int{-1, n, i + n, i - n, i + 1<<32, math.MinInt, math.MaxInt} {
				if CheckInclusion(leaves[i], j, n, path, root) {
					t.Fatalf("P3.2: the proof of %d in %d leaves is accepted for %d", i, n, j)
				}
			}
			for k := range 2 * n { // another number of leaves has another proof, or the same: the rule tells
				if got, want := CheckInclusion(leaves[i], i, k, path, root), ruleCheckInclusion(leaves[i], i, k, path, root); got != want {
					t.Fatalf("P3.2: the proof of %d in %d leaves, taken for %d leaves: %v", i, n, k, got)
				}
			}
		}
	}
	if !slices.Equal(all, someLeaves(40)) {
		t.Error("P3.2: CheckInclusion has changed a proof")
	}
}

func TestCheckInclusionLimits(t *testing.T) {
	a := Leaf("a")
	for _, x := range []struct {
		i, n int
		want bool
	}{
		{0, 1, true}, {0, 0, false}, {0, -1, false}, {-1, 0, false}, {-1, -1, false}, {-1, 1, false}, {1, 1, false},
		{0, math.MinInt, false}, {0, math.MaxInt, false}, {math.MaxInt, math.MaxInt, false}, {math.MinInt, math.MinInt, false},
		{0, maxLeaves, false}, {0, maxLeaves + 1, false}, {0, 1<<32 + 1, false},
	} {
		if got := CheckInclusion(a, x.i, x.n, nil, a); got != x.want {
			t.Errorf("P3.2: an empty proof of %d in %d leaves: %v", x.i, x.n, got)
		}
	}
	r := rand.New(rand.NewSource(32))
	for _, n := range farSizes(r) {
		l := listOf(someLeaves(1))
		l.named[n/2] = Leaf("half")
		root := l.root(0, n)
		for _, i := range farPlaces(r, n) {
			path := l.inclusion(0, n, i)
			if !CheckInclusion(l.at(i), i, n, path, root) {
				t.Errorf("P3.2: the proof of %d in %d leaves is refused", i, n)
			}
			if CheckInclusion(other, i, n, path, root) || CheckInclusion(l.at(i), i, n, path, other) {
				t.Errorf("P3.2: another leaf or root of %d in %d leaves is accepted", i, n)
			}
			for _, wrong := range changed(path) {
				if CheckInclusion(l.at(i), i, n, wrong, root) {
					t.Fatalf("P3.2: a changed proof of %d in %d leaves is accepted", i, n)
				}
			}
		}
	}
	for _, n := range []int{maxLeaves + 1, maxLeaves + 2, 2 * maxLeaves, 1 << 61} {
		l := listOf(nil)
		if CheckInclusion(l.fill, 0, n, l.inclusion(0, n, 0), l.root(0, n)) {
			t.Errorf("P3.2: a proof for %d leaves is accepted", n)
		}
	}
}

// TestInclusionBinds looks among all digests of small trees for another leaf and path that lead to the root.
func TestInclusionBinds(t *testing.T) {
	for n := 1; n <= 5; n++ {
		leaves := someLeaves(n)
		l := listOf(leaves)
		digests := l.known(0, n)
		paths := lists(digests, 3)
		for i := range n {
			count := 0
			for _, leaf := range digests {
				for _, path := range paths {
					if CheckInclusion(leaf, i, n, path, l.root(0, n)) {
						count++
						if leaf != leaves[i] || !slices.Equal(path, l.inclusion(0, n, i)) {
							t.Fatalf("P3.7: the leaf %x of %d in %d leaves is accepted with the proof %x", leaf, i, n, path)
						}
					}
				}
			}
			if count != 1 {
				t.Errorf("P3.6: %d proofs of %d in %d leaves are accepted", count, i, n)
			}
		}
	}
}

func TestCheckConsistency(t *testing.T) {
	all := someLeaves(40)
	for n := range len(all) + 1 {
		root := Root(all[:n])
		for m := 1; m <= n; m++ {
			old := Root(all[:m])
			path, _ := Consistency(all[:n], m)
			if !CheckConsistency(m, n, old, root, path) {
				t.Fatalf("P3.3, P3.6, P3.8: the proof of %d leaves with %d is refused", n, m)
			}
			for _, wrong := range []api.Digest{other, {}, all[n-1], Root(all[:m-1]), Root(all[:n-1])} {
				if wrong != root && CheckConsistency(m, n, old, wrong, path) {
					t.Fatalf("P3.3, P3.8: another root of %d leaves with %d is accepted", n, m)
				}
				if wrong != old && CheckConsistency(m, n, wrong, root, path) {
					t.Fatalf("P3.3, P3.8: another root of the first %d of %d leaves is accepted", m, n)
				}
			}
			for _, wrong := range changed(path) {
				if CheckConsistency(m, n, old, root, wrong) {
					t.Fatalf("P3.3: a changed proof of %d leaves with %d is accepted", n, m)
				}
			}
			for k := -1; k <= n+1; k++ {
				if k != m && CheckConsistency(k, n, old, root, path) {
					t.Fatalf("P3.3: the proof of %d leaves with %d is accepted for the first %d", n, m, k)
				}
			}
			for k := range 2 * n {
				if got, want := CheckConsistency(m, k, old, root, path), ruleCheckConsistency(m, k, old, root, path); got != want {
					t.Fatalf("P3.3: the proof of %d leaves with %d, taken for %d leaves: %v", n, m, k, got)
				}
			}
		}
	}
	if !slices.Equal(all, someLeaves(40)) {
		t.Error("P3.3: CheckConsistency has changed a proof")
	}
}

// TestFirstOfPowerOfTwo has the lists whose old root a check takes from its argument: whatever is claimed, it must lead to the root of all.
func TestFirstOfPowerOfTwo(t *testing.T) {
	all := someLeaves(40)
	for n := 2; n <= len(all); n++ {
		root := Root(all[:n])
		for m := 1; m < n; m *= 2 {
			path, _ := Consistency(all[:n], m)
			for _, wrong := range append(slices.Clone(all), other, root, Root(nil), api.Digest{}) {
				if wrong != Root(all[:m]) && CheckConsistency(m, n, wrong, root, path) {
					t.Fatalf("P3.8: another root of the first %d of %d leaves is accepted", m, n)
				}
			}
		}
	}
}

func TestCheckConsistencyLimits(t *testing.T) {
	a, empty := Leaf("a"), ruleOf(32)
	for _, x := range []struct {
		m, n      int
		old, root api.Digest
		path      []api.Digest
		want      bool
	}{
		{0, 0, empty, empty, nil, true}, {0, 0, empty, a, nil, true}, {0, 0, empty, api.Digest{}, []api.Digest{}, true}, {0, 0, a, a, nil, false}, {0, 0, a, empty, nil, false},
		{0, 0, empty, empty, []api.Digest{a}, false}, {0, 0, empty, empty, []api.Digest{empty}, false},
		{0, 1, empty, a, nil, true}, {0, 1, empty, other, nil, true}, {0, 1, a, a, nil, false}, {0, 1, api.Digest{}, a, nil, false}, {0, 1, empty, a, []api.Digest{a}, false},
		{0, 7, empty, a, nil, true}, {0, 7, empty, a, []api.Digest{{}}, false}, {0, maxLeaves, empty, a, nil, true}, {0, maxLeaves + 1, empty, a, nil, false}, {0, math.MaxInt, empty, a, nil, false},
		{1, 1, a, a, nil, true}, {1, 1, a, other, nil, false}, {1, 1, a, a, []api.Digest{a}, false}, {5, 5, a, a, nil, true}, {5, 5, a, a, []api.Digest{{}}, false}, {5, 5, a, other, nil, false},
		{maxLeaves, maxLeaves, a, a, nil, true}, {maxLeaves, maxLeaves, a, other, nil, false}, {maxLeaves + 1, maxLeaves + 1, a, a, nil, false}, {math.MaxInt, math.MaxInt, a, a, nil, false},
		{-1, -1, a, a, nil, false}, {-1, 0, empty, empty, nil, false}, {-1, 1, a, a, nil, false}, {0, -1, empty, empty, nil, false}, {1, 0, a, a, nil, false}, {2, 1, a, a, nil, false}, {math.MinInt, math.MinInt, a, a, nil, false},
		{math.MinInt, 0, empty, empty, nil, false}, {1, 2, a, a, nil, false}, {1, maxLeaves, a, a, nil, false}, {1<<32 + 1, 1<<32 + 2, a, a, nil, false}, {1, math.MinInt, a, a, nil, false},
	} {
		if got := CheckConsistency(x.m, x.n, x.old, x.root, x.path); got != x.want {
			t.Errorf("P3.3: CheckConsistency(%d, %d, %x, %x, %x) = %v", x.m, x.n, x.old, x.root, x.path, got)
		}
	}
	r := rand.New(rand.NewSource(33))
	for _, n := range farSizes(r) {
		l := listOf(someLeaves(3))
		l.named[n/2] = Leaf("half")
		root := l.root(0, n)
		for _, m := range append(farPlaces(r, n), n, 1<<15, 1<<15+1) {
			path, old := l.consistency(n, m), l.root(0, m)
			if !CheckConsistency(m, n, old, root, path) {
				t.Errorf("P3.3: the proof of %d leaves with %d is refused", n, m)
			}
			if m != 0 && (CheckConsistency(m, n, other, root, path) || CheckConsistency(m, n, old, other, path)) {
				t.Errorf("P3.3, P3.8: another root of %d leaves, or of the first %d of them, is accepted", n, m)
			}
			for _, wrong := range changed(path) {
				if CheckConsistency(m, n, old, root, wrong) {
					t.Fatalf("P3.3: a changed proof of %d leaves with %d is accepted", n, m)
				}
			}
		}
	}
	for _, n := range []int{maxLeaves + 1, maxLeaves + 2, 2 * maxLeaves, 1 << 61} {
		l := listOf(nil)
		if CheckConsistency(5, n, l.root(0, 5), l.root(0, n), l.consistency(n, 5)) {
			t.Errorf("P3.3: a proof for %d leaves is accepted", n)
		}
	}
}

// TestConsistencyBinds looks among all digests of small trees for another root of the first leaves.
func TestConsistencyBinds(t *testing.T) {
	for n := 1; n <= 5; n++ {
		l := listOf(someLeaves(n))
		digests := l.known(0, n)
		paths := lists(digests, 3)
		for m := 1; m <= n; m++ {
			for _, old := range digests {
				for _, path := range paths {
					right := old == l.root(0, m) && slices.Equal(path, l.consistency(n, m))
					if len(l.consistency(n, m)) <= 3 && CheckConsistency(m, n, old, l.root(0, n), path) != right {
						t.Fatalf("P3.8: the root %x of the first %d of %d leaves, with the proof %x: %v", old, m, n, path, !right)
					}
				}
			}
		}
	}
}

func TestCheckMany(t *testing.T) {
	r := rand.New(rand.NewSource(34))
	all := someLeaves(40)
	check := func(n int, places []int) {
		l, root := listOf(all[:n]), Root(all[:n])
		found := l.elements(places)
		path, _ := Many(all[:n], places)
		if !CheckMany(n, places, found, path, root) {
			t.Fatalf("P3.4, P3.6, P3.8: the proof of %v in %d leaves is refused", places, n)
		}
		if CheckMany(n, places, found, path, other) {
			t.Fatalf("P3.4: the proof of %v in %d leaves is accepted with another root", places, n)
		}
		for _, wrong := range changed(path) {
			if CheckMany(n, places, found, wrong, root) {
				t.Fatalf("P3.4: a changed proof of %v in %d leaves is accepted", places, n)
			}
		}
		for _, wrong := range changed(found) {
			if CheckMany(n, places, wrong, path, root) {
				t.Fatalf("P3.4: other elements of %d leaves at %v are accepted", n, places)
			}
		}
		for j := range places {
			for _, p := range []int{places[j] - 1, places[j] + 1, -1, n} {
				wrong := slices.Clone(places)
				wrong[j] = p
				if CheckMany(n, wrong, found, path, root) {
					t.Fatalf("P3.4: the proof of %v in %d leaves is accepted for %v", places, n, wrong)
				}
			}
		}
		for k := range n + 3 {
			if got, want := CheckMany(k, places, found, path, root), ruleCheckMany(k, places, found, path, root); got != want {
				t.Fatalf("P3.4: the proof of %v in %d leaves, taken for %d leaves: %v", places, n, k, got)
			}
		}
	}
	for n := range 8 {
		for set := range 1 << n {
			check(n, bitsOf(set))
		}
	}
	for range 60 {
		n := r.Intn(len(all) + 1)
		check(n, somePlaces(r, n))
	}
	if !slices.Equal(all, someLeaves(40)) {
		t.Error("P3.4: CheckMany has changed a proof")
	}
}

// TestShortProofs has trees with digests of zeros, which a check must not put in the place of what a proof lacks.
func TestShortProofs(t *testing.T) {
	for n := 2; n < 20; n++ {
		leaves := make([]api.Digest, n)
		root := Root(leaves)
		for i := range n {
			path, _ := Inclusion(leaves, i)
			many, _ := Many(leaves, []int{i})
			for k := range path {
				if CheckInclusion(leaves[i], i, n, path[:k], root) || CheckInclusion(leaves[i], i, n, path[k+1:], root) {
					t.Fatalf("P3.2: a part of the proof of %d in %d leaves is accepted", i, n)
				}
				if CheckMany(n, []int{i}, leaves[i:i+1], many[:k], root) || CheckMany(n, []int{i}, leaves[i:i+1], many[k+1:], root) {
					t.Fatalf("P3.4: a part of the proof of %d in %d leaves is accepted", i, n)
				}
			}
			growth, _ := Consistency(leaves, i)
			for k := range growth {
				if CheckConsistency(i, n, Root(leaves[:i]), root, growth[:k]) || CheckConsistency(i, n, Root(leaves[:i]), root, growth[k+1:]) {
					t.Fatalf("P3.3: a part of the proof of %d leaves with %d is accepted", n, i)
				}
			}
		}
	}
	if CheckMany(1, nil, nil, nil, api.Digest{}) {
		t.Error("P3.4: an empty proof of one leaf is accepted")
	}
}

func TestCheckManyLimits(t *testing.T) {
	a, b, empty := Leaf("a"), Leaf("b"), ruleOf(32)
	ab := Node(a, b)
	type digests = []api.Digest
	for _, x := range []struct {
		n           int
		places      []int
		found, path []api.Digest
		root        api.Digest
		want        bool
	}{
		{0, nil, nil, nil, empty, true}, {0, []int{}, digests{}, digests{}, empty, true}, {0, nil, nil, nil, a, false}, {0, nil, nil, nil, api.Digest{}, false}, {0, nil, nil, digests{empty}, empty, false},
		{0, []int{0}, digests{empty}, nil, empty, false}, {0, nil, digests{empty}, nil, empty, false}, {0, []int{-1}, digests{a}, nil, empty, false},
		{1, nil, nil, digests{a}, a, true}, {1, nil, nil, nil, a, false}, {1, nil, nil, digests{a, a}, a, false}, {1, []int{0}, digests{a}, nil, a, true}, {1, []int{0}, digests{a}, digests{a}, a, false}, {1, []int{0}, nil, digests{a}, a, false},
		{1, nil, digests{a}, nil, a, false}, {1, []int{0}, digests{b}, nil, a, false}, {1, []int{1}, digests{a}, nil, a, false}, {1, []int{-1}, digests{a}, nil, a, false}, {1, []int{0, 0}, digests{a, a}, nil, a, false},
		{2, []int{0, 1}, digests{a, b}, nil, ab, true}, {2, []int{1, 0}, digests{b, a}, nil, ab, false}, {2, []int{0, 0}, digests{a, a}, digests{b}, ab, false}, {2, []int{0, 1}, digests{a}, digests{b}, ab, false}, {2, []int{0}, digests{a, b}, nil, ab, false},
		{2, []int{0}, digests{a}, digests{b}, ab, true}, {2, []int{1}, digests{b}, digests{a}, ab, true}, {2, []int{2}, digests{b}, digests{a}, ab, false}, {2, nil, nil, digests{ab}, ab, true}, {2, nil, nil, digests{a, b}, ab, false},
		{2, []int{0, 1, 2}, digests{a, b, b}, nil, ab, false}, {2, []int{-1, 0, 1}, digests{a, a, b}, nil, ab, false},
		{-1, nil, nil, nil, empty, false}, {-1, nil, nil, digests{a}, a, false}, {math.MinInt, nil, nil, nil, empty, false},
		{maxLeaves, nil, nil, digests{a}, a, true}, {maxLeaves + 1, nil, nil, digests{a}, a, false}, {math.MaxInt, nil, nil, digests{a}, a, false},
		{maxLeaves, []int{maxLeaves}, digests{a}, nil, a, false}, {maxLeaves, []int{math.MinInt}, digests{a}, nil, a, false}, {maxLeaves, []int{0, math.MaxInt}, digests{a, b}, nil, a, false},
	} {
		if got := CheckMany(x.n, x.places, x.found, x.path, x.root); got != x.want {
			t.Errorf("P3.4: CheckMany(%d, %v, %x, %x, %x) = %v", x.n, x.places, x.found, x.path, x.root, got)
		}
	}
	r := rand.New(rand.NewSource(35))
	for _, n := range farSizes(r) {
		l := listOf(someLeaves(1))
		l.named[n/2] = Leaf("half")
		root := l.root(0, n)
		for places := farPlaces(r, n); ; places = places[1:] {
			found, path := l.elements(places), l.many(0, n, places)
			if !CheckMany(n, places, found, path, root) {
				t.Errorf("P3.4: the proof of %v in %d leaves is refused", places, n)
			}
			if CheckMany(n, places, found, path, other) || CheckMany(n, places, found, append(path, other), root) || CheckMany(n, places, found, path[1:], root) {
				t.Errorf("P3.4: a changed proof of %v in %d leaves is accepted", places, n)
			}
			if len(places) == 0 {
				break
			}
			for j := range found {
				wrong := slices.Clone(found)
				wrong[j] = other
				if CheckMany(n, places, wrong, path, root) {
					t.Errorf("P3.4: another element of %d leaves at %d is accepted", n, places[j])
				}
			}
		}
	}
	for _, n := range []int{maxLeaves + 1, maxLeaves + 2, 2 * maxLeaves, 1 << 61} {
		l := listOf(nil)
		if CheckMany(n, []int{5}, l.elements([]int{5}), l.many(0, n, []int{5}), l.root(0, n)) {
			t.Errorf("P3.4: a proof for %d leaves is accepted", n)
		}
	}
}

// TestManyBinds looks among all digests of small trees for other elements that lead to the root.
func TestManyBinds(t *testing.T) {
	for n := range 4 {
		l := listOf(someLeaves(n))
		digests := l.known(0, n)
		all := lists(digests, 3)
		short := lists(digests, 2)
		for set := range 1 << n {
			places := bitsOf(set)
			for _, found := range all {
				for _, path := range short {
					right := slices.Equal(found, l.elements(places)) && slices.Equal(path, l.many(0, n, places))
					if CheckMany(n, places, found, path, l.root(0, n)) != right {
						t.Fatalf("P3.8: the elements %x of %d leaves at %v, with the proof %x: %v", found, n, places, path, !right)
					}
				}
			}
		}
	}
}

// FuzzChecks looks for arguments on which a check panics or goes on for ever (P1), or decides otherwise than the rules (P3.2 to P3.4). The digests are few, so that some proofs are right.
func FuzzChecks(f *testing.F) {
	f.Add(1, 3, []byte{1, 2}, []byte{}, 5)
	f.Add(2, 4, []byte{3, 5}, []byte{0, 1}, 6)
	f.Add(0, 0, []byte{}, []byte{}, 7)
	f.Add(maxLeaves-1, maxLeaves, []byte{0, 1, 2}, []byte{3, 9, 255}, 0)
	f.Add(-1, math.MaxInt, []byte{4}, []byte{128}, 1)
	leaves := someLeaves(5)
	l := listOf(leaves)
	digests := append(l.known(0, 5), l.root(0, 3), other)
	f.Fuzz(func(t *testing.T, m, n int, path, places []byte, at int) {
		digest := func(k int) api.Digest { return digests[uint(k)%uint(len(digests))] }
		var p, found []api.Digest
		var where []int
		for _, c := range path {
			p = append(p, digest(int(c)))
		}
		for j, c := range places {
			where = append(where, int(int8(c)))
			found = append(found, l.at(int(int8(c))))
			if j%7 == 6 {
				found[j] = digest(at + j)
			}
		}
		for _, root := range []api.Digest{digest(at), l.root(0, 5), l.root(0, 3)} {
			for _, leaf := range []api.Digest{digest(at / 8), l.at(m)} {
				if got := CheckInclusion(leaf, m, n, p, root); got != ruleCheckInclusion(leaf, m, n, p, root) {
					t.Errorf("P3.2: CheckInclusion(%x, %d, %d, %x, %x) = %v", leaf, m, n, p, root, got)
				}
				if got := CheckConsistency(m, n, leaf, root, p); got != ruleCheckConsistency(m, n, leaf, root, p) {
					t.Errorf("P3.3: CheckConsistency(%d, %d, %x, %x, %x) = %v", m, n, leaf, root, p, got)
				}
			}
			if got := CheckMany(n, where, found, p, root); got != ruleCheckMany(n, where, found, p, root) {
				t.Errorf("P3.4: CheckMany(%d, %v, %x, %x, %x) = %v", n, where, found, p, root, got)
			}
		}
	})
}
