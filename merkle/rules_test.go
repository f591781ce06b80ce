package merkle

import (
	"crypto/sha256"
	"math/bits"
	"math/rand"
	"slices"

	"simulacrum/api"
	"simulacrum/wire"
)

// maxLeaves is the limit of the checks and of peaks: a variable, so that numbers beyond it can be written.
var maxLeaves int = api.MaxLeaves

// ruleOf is P2.5 for tags from 0 to 255.
func ruleOf(tag int, parts ...string) api.Digest {
	b := []byte{byte(tag)}
	for _, part := range parts {
		b = append(b, wire.Bytes(part)...)
	}
	h := sha256.Sum256(b)
	return api.Digest(h[:16])
}

func ruleNode(a, b api.Digest) api.Digest { return ruleOf(31, string(a[:]), string(b[:])) }

// ruleFirst is how many of n elements the first part has.
func ruleFirst(n int) int {
	k := 1
	for 2*k < n {
		k *= 2
	}
	return k
}

// ruleList is a list of the rules, which can have very many elements: all of them are alike, but the named ones.
type ruleList struct {
	fill  api.Digest
	named map[int]api.Digest
	alike map[int]api.Digest // the roots of parts without a named element, by their number of elements
}

// listOf returns a list that begins with some elements.
func listOf(leaves []api.Digest) *ruleList {
	l := &ruleList{fill: ruleOf(30, "fill"), named: map[int]api.Digest{}, alike: map[int]api.Digest{}}
	for i, leaf := range leaves {
		l.named[i] = leaf
	}
	return l
}

func (l *ruleList) at(i int) api.Digest {
	if d, there := l.named[i]; there {
		return d
	}
	return l.fill
}

// hasName reports whether one of n elements is named.
func (l *ruleList) hasName(from, n int) bool {
	for i := range l.named {
		if from <= i && i < from+n {
			return true
		}
	}
	return false
}

// root is P3.1 for n elements.
func (l *ruleList) root(from, n int) api.Digest {
	if n == 0 {
		return ruleOf(32)
	}
	if n == 1 {
		return l.at(from)
	}
	named := l.hasName(from, n)
	if d, there := l.alike[n]; there && !named {
		return d
	}
	k := ruleFirst(n)
	d := ruleNode(l.root(from, k), l.root(from+k, n-k))
	if !named {
		l.alike[n] = d
	}
	return d
}

// inclusion is P3.2 for n elements.
func (l *ruleList) inclusion(from, n, i int) []api.Digest {
	if n == 1 {
		return nil
	}
	k := ruleFirst(n)
	if i < k {
		return append(l.inclusion(from, k, i), l.root(from+k, n-k))
	}
	return append(l.inclusion(from+k, n-k, i-k), l.root(from, k))
}

// consistency is P3.3 for n elements.
func (l *ruleList) consistency(n, m int) []api.Digest {
	if m == 0 || m == n {
		return nil
	}
	return l.marked(0, n, m, true)
}

func (l *ruleList) marked(from, n, m int, mark bool) []api.Digest {
	if m == n && mark {
		return nil
	}
	if m == n {
		return []api.Digest{l.root(from, n)}
	}
	k := ruleFirst(n)
	if m <= k {
		return append(l.marked(from, k, m, mark), l.root(from+k, n-k))
	}
	return append(l.marked(from+k, n-k, m-k, false), l.root(from, k))
}

// many is P3.4 for n elements; the places are those of the whole list.
func (l *ruleList) many(from, n int, places []int) []api.Digest {
	var path []api.Digest
	if n > 0 {
		for _, p := range ruleParts(from, n, places) {
			path = append(path, l.root(p.from, p.n))
		}
	}
	return path
}

// peaks is P3.5 for n elements.
func (l *ruleList) peaks(n int) api.Peaks {
	p, from := api.Peaks{Size: n}, 0
	for k := 62; k >= 0; k-- {
		if n>>k&1 == 1 {
			p.Tops = append(p.Tops, l.root(from, 1<<k))
			from += 1 << k
		}
	}
	return p
}

func (l *ruleList) elements(places []int) []api.Digest {
	var found []api.Digest
	for _, p := range places {
		found = append(found, l.at(p))
	}
	return found
}

// rulePart is a part of a list.
type rulePart struct{ from, n int }

// ruleParts returns the parts whose roots are in a proof of Many, in order.
func ruleParts(from, n int, places []int) []rulePart {
	one := slices.ContainsFunc(places, func(p int) bool { return from <= p && p < from+n })
	switch {
	case !one:
		return []rulePart{{from, n}}
	case n == 1:
		return nil
	}
	k := ruleFirst(n)
	return append(ruleParts(from, k, places), ruleParts(from+k, n-k, places)...)
}

// ruleTurns tells, from the whole list down to the element, whether it is in the second part.
func ruleTurns(i, n int) []bool {
	var turns []bool
	for n > 1 {
		k := ruleFirst(n)
		turns = append(turns, i >= k)
		if i >= k {
			i, n = i-k, n-k
		} else {
			n = k
		}
	}
	return turns
}

// ruleCheckInclusion is P3.2, from the leaf upwards.
func ruleCheckInclusion(leaf api.Digest, i, n int, path []api.Digest, root api.Digest) bool {
	if n < 1 || n > 1<<40 || i < 0 || i > n-1 {
		return false
	}
	turns := ruleTurns(i, n)
	if len(path) != len(turns) {
		return false
	}
	slices.Reverse(turns)
	for j, second := range turns {
		if second {
			leaf = ruleNode(path[j], leaf)
		} else {
			leaf = ruleNode(leaf, path[j])
		}
	}
	return leaf == root
}

// ruleCheckConsistency is P3.3.
func ruleCheckConsistency(m, n int, old, root api.Digest, path []api.Digest) bool {
	switch {
	case m < 0 || m > n || n > 1<<40:
		return false
	case m == 0:
		return len(path) == 0 && old == ruleOf(32)
	case m == n:
		return len(path) == 0 && old == root
	}
	before, after, fits := ruleRoots(m, n, true, old, path)
	return fits && before == old && after == root
}

// ruleRoots takes a path from its end on: the last element is the root of the other part of the whole list.
func ruleRoots(m, n int, mark bool, old api.Digest, path []api.Digest) (before, after api.Digest, fits bool) {
	last := len(path) - 1
	switch {
	case m == n && mark:
		return old, old, len(path) == 0
	case last < 0:
		return before, after, false
	case m == n:
		return path[0], path[0], last == 0
	}
	k := ruleFirst(n)
	if m <= k {
		before, after, fits = ruleRoots(m, k, mark, old, path[:last])
		return before, ruleNode(after, path[last]), fits
	}
	before, after, fits = ruleRoots(m-k, n-k, false, old, path[:last])
	return ruleNode(path[last], before), ruleNode(path[last], after), fits
}

// ruleCheckMany is P3.4: it looks the roots of parts up in what is given.
func ruleCheckMany(n int, places []int, found, path []api.Digest, root api.Digest) bool {
	if n < 0 || n > 1<<40 || len(found) != len(places) {
		return false
	}
	for j, p := range places {
		if p < 0 || p >= n || j > 0 && places[j-1] >= p {
			return false
		}
	}
	if n == 0 {
		return len(path) == 0 && root == ruleOf(32)
	}
	parts := ruleParts(0, n, places)
	if len(parts) != len(path) {
		return false
	}
	given := map[rulePart]api.Digest{}
	for j, p := range places {
		given[rulePart{p, 1}] = found[j]
	}
	for j, p := range parts {
		given[p] = path[j]
	}
	return ruleGiven(given, rulePart{0, n}) == root
}

func ruleGiven(given map[rulePart]api.Digest, p rulePart) api.Digest {
	if d, there := given[p]; there {
		return d
	}
	k := ruleFirst(p.n)
	return ruleNode(ruleGiven(given, rulePart{p.from, k}), ruleGiven(given, rulePart{p.from + k, p.n - k}))
}

// someLeaves returns n different digests.
func someLeaves(n int) []api.Digest {
	leaves := make([]api.Digest, n)
	for i := range leaves {
		leaves[i] = ruleOf(30, string(wire.Int(i)))
	}
	return leaves
}

// somePlaces returns some of n positions, in ascending order.
func somePlaces(r *rand.Rand, n int) []int {
	var places []int
	rare := r.Intn(5) + 1
	for i := range n {
		if r.Intn(rare) == 0 {
			places = append(places, i)
		}
	}
	return places
}

// bitsOf returns the positions of the binary digits 1.
func bitsOf(set int) []int {
	var places []int
	for ; set > 0; set &= set - 1 {
		places = append(places, bits.TrailingZeros(uint(set)))
	}
	return places
}

// changed returns lists that are all different from a list of digests: an element less, or more, or another one, or two neighbours in the other order.
func changed(l []api.Digest) [][]api.Digest {
	other := ruleOf(30, "other")
	lists := [][]api.Digest{
		append(slices.Clone(l), other), append([]api.Digest{other}, l...),
		append(slices.Clone(l), api.Digest{}), append([]api.Digest{{}}, l...),
	}
	for j, d := range l {
		with := func(e api.Digest) []api.Digest {
			c := slices.Clone(l)
			c[j] = e
			return c
		}
		first, last := d, d
		first[0] ^= 128
		last[15] ^= 1
		lists = append(lists, slices.Delete(slices.Clone(l), j, j+1), slices.Insert(slices.Clone(l), j, d), with(first), with(last), with(other))
		if j > 0 && l[j-1] != d {
			c := with(l[j-1])
			c[j-1] = d
			lists = append(lists, c)
		}
	}
	return lists
}

// lists returns all lists of at most n of some digests.
func lists(from []api.Digest, n int) [][]api.Digest {
	all := [][]api.Digest{nil}
	begin := 0
	for range n {
		end := len(all)
		for _, l := range all[begin:end] {
			for _, d := range from {
				all = append(all, append(slices.Clone(l), d))
			}
		}
		begin = end
	}
	return all
}

// known returns the digests that a tree has, and some that it does not have.
func (l *ruleList) known(from, n int) []api.Digest {
	if n <= 1 {
		return []api.Digest{l.root(from, n), ruleOf(32), {}}
	}
	k := ruleFirst(n)
	all := slices.Concat(l.known(from, k), l.known(from+k, n-k), []api.Digest{l.root(from, n)})
	slices.SortFunc(all, func(a, b api.Digest) int { return slices.Compare(a[:], b[:]) })
	return slices.Compact(all)
}
