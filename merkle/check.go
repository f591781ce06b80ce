package merkle

import (
	"slices"

	"simulacrum/api"
)

// CheckInclusion checks a proof of Inclusion for the position i of n.
func CheckInclusion(leaf api.Digest, i, n int, path []api.Digest, root api.Digest) (ok bool) {
	if i < 0 || i >= n || n > api.MaxLeaves {
		return false
	}
	t := trail{rest: path}
	defer t.end(&ok)
	return t.climb(leaf, i, n) == root
}

// CheckConsistency checks a proof of Consistency for the first m elements of n.
func CheckConsistency(m, n int, old, root api.Digest, path []api.Digest) (ok bool) {
	if m < 0 || m > n || n > api.MaxLeaves {
		return false
	}
	t := trail{rest: path}
	defer t.end(&ok)
	if m == 0 {
		return old == emptyRoot()
	}
	before, after := t.grow(old, m, n, true)
	return before == old && after == root
}

// CheckMany checks a proof of Many for several positions of n, and what is found there.
func CheckMany(n int, places []int, found, path []api.Digest, root api.Digest) (ok bool) {
	if n < 0 || n > api.MaxLeaves || !arePlaces(places, n) || len(found) != len(places) {
		return false
	}
	t := trail{rest: path}
	defer t.end(&ok)
	if n == 0 {
		return root == emptyRoot()
	}
	return t.gather(0, n, places, found) == root
}

// trail is what a check has not used yet of a path.
type trail struct {
	rest  []api.Digest
	short bool // more was asked for than the path has
}

func (t *trail) next() api.Digest {
	if len(t.rest) == 0 {
		t.short = true
		return api.Digest{}
	}
	d := t.rest[0]
	t.rest = t.rest[1:]
	return d
}

// end makes a check fail that has not used exactly the path.
func (t *trail) end(ok *bool) { *ok = *ok && !t.short && len(t.rest) == 0 }

// climb returns the root of n elements that have the leaf at the position i.
func (t *trail) climb(leaf api.Digest, i, n int) api.Digest {
	if n == 1 {
		return leaf
	}
	k := split(n)
	if i < k {
		first := t.climb(leaf, i, k)
		return Node(first, t.next())
	}
	second := t.climb(leaf, i-k, n-k)
	return Node(t.next(), second)
}

// grow returns the roots of the first m of n elements, and of all; old is the first one if the trail does not have it (known).
func (t *trail) grow(old api.Digest, m, n int, known bool) (before, after api.Digest) {
	if m == n {
		if !known {
			old = t.next()
		}
		return old, old
	}
	k := split(n)
	if m <= k {
		before, after = t.grow(old, m, k, known)
		return before, Node(after, t.next())
	}
	before, after = t.grow(old, m-k, n-k, false)
	first := t.next()
	return Node(first, before), Node(first, after)
}

// gather returns the root of n elements, the first of which has the position at, and which have what is found at the places.
func (t *trail) gather(at, n int, places []int, found []api.Digest) api.Digest {
	if len(places) == 0 {
		return t.next()
	}
	if n == 1 {
		return found[0]
	}
	k := split(n)
	c, _ := slices.BinarySearch(places, at+k)
	first := t.gather(at, k, places[:c], found[:c])
	second := t.gather(at+k, n-k, places[c:], found[c:])
	return Node(first, second)
}
