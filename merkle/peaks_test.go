package merkle

import (
	"math"
	"math/rand"
	"slices"
	"testing"

	"simulacrum/api"
)

func samePeaks(p, q api.Peaks) bool { return p.Size == q.Size && slices.Equal(p.Tops, q.Tops) }

// TestGrowingTree appends leaf by leaf.
func TestGrowingTree(t *testing.T) {
	all := someLeaves(300)
	l := listOf(all)
	var p api.Peaks
	for n := range len(all) {
		root, e := Top(p)
		if e != api.OK || root != Root(all[:n]) {
			t.Fatalf("P3.5, P3.6: Top of %d leaves = %x, %d, want %x", n, root, e, Root(all[:n]))
		}
		was := api.Peaks{Size: p.Size, Tops: slices.Clone(p.Tops)}
		next, e := Append(p, all[n])
		if e != api.OK || !samePeaks(next, l.peaks(n+1)) {
			t.Fatalf("P3.5: %d peaks and one more are %v, %d, want %v", n, next, e, l.peaks(n+1))
		}
		if !samePeaks(p, was) {
			t.Fatalf("P3.5: Append has changed the peaks of %d leaves", n)
		}
		p = next
	}
}

func TestPeaksOfLargeTrees(t *testing.T) {
	r := rand.New(rand.NewSource(35))
	sizes := []int{0, 1, 1<<20 - 1, 1 << 20, 1<<39 - 1, 1 << 39, 1<<39 + 1, maxLeaves - 1<<20, maxLeaves - 3, maxLeaves - 2, maxLeaves - 1, maxLeaves}
	for range 50 {
		sizes = append(sizes, r.Intn(maxLeaves))
	}
	for _, n := range sizes {
		l := listOf([]api.Digest{Leaf("first")})
		l.named[n] = Leaf("next")
		p := l.peaks(n)
		if root, e := Top(p); e != api.OK || root != l.root(0, n) {
			t.Errorf("P3.5: Top of %d leaves = %x, %d, want %x", n, root, e, l.root(0, n))
		}
		next, e := Append(p, Leaf("next"))
		if n == maxLeaves {
			if e != api.ErrLimit || !samePeaks(next, api.Peaks{}) {
				t.Errorf("P3.5: MaxLeaves leaves and one more are %v, %d, want ErrLimit", next, e)
			}
			continue
		}
		if e != api.OK || !samePeaks(next, l.peaks(n+1)) {
			t.Errorf("P3.5: %d leaves and one more are %v, %d, want %v", n, next, e, l.peaks(n+1))
		}
	}
}

func TestMalformedPeaks(t *testing.T) {
	for _, x := range []struct{ size, tops int }{
		{0, 1}, {1, 0}, {1, 2}, {2, 0}, {2, 2}, {3, 1}, {3, 3}, {4, 2}, {6, 1}, {7, 2}, {7, 4}, {-1, 0}, {-1, 1}, {-1, 64}, {-2, 63}, {-2, 1}, {-3, 2},
		{math.MinInt, 1}, {math.MinInt, 0}, {math.MaxInt, 63}, {maxLeaves, 0}, {maxLeaves, 2}, {maxLeaves + 1, 2}, {maxLeaves + 1, 1}, {2 * maxLeaves, 1}, {1 << 62, 1}, {maxLeaves - 1, 39}, {maxLeaves - 1, 41},
		{1 << 32, 0}, {1<<32 + 1, 1},
	} {
		p := api.Peaks{Size: x.size, Tops: someLeaves(x.tops)}
		if q, e := Append(p, Leaf("more")); e != api.ErrForm || !samePeaks(q, api.Peaks{}) {
			t.Errorf("P3.5: %d leaves with %d tops, and one more, are %v, %d, want ErrForm", x.size, x.tops, q, e)
		}
		if root, e := Top(p); e != api.ErrForm || root != (api.Digest{}) {
			t.Errorf("P3.5: Top of %d leaves with %d tops = %x, %d, want ErrForm", x.size, x.tops, root, e)
		}
		if !slices.Equal(p.Tops, someLeaves(x.tops)) {
			t.Errorf("P3.5: %d tops have changed", x.tops)
		}
	}
}

// TestPeaksAreNewMemory lets several lists go on from one, with room behind its tops.
func TestPeaksAreNewMemory(t *testing.T) {
	for n := range 40 {
		l := listOf(someLeaves(n))
		p := api.Peaks{Size: n, Tops: append(make([]api.Digest, 0, 64), l.peaks(n).Tops...)}
		one, _ := Append(p, Leaf("one"))
		other, _ := Append(p, Leaf("other"))
		l.named[n] = Leaf("one")
		if !samePeaks(one, l.peaks(n+1)) {
			t.Errorf("P3.5: %d leaves and one more change with another list", n)
		}
		l.named[n] = Leaf("other")
		clear(one.Tops)
		clear(p.Tops[:cap(p.Tops)])
		if !samePeaks(other, l.peaks(n+1)) {
			t.Errorf("P3.5: %d leaves and one more change with those before", n)
		}
	}
}
