package table

import (
	"iter"

	"simulacrum/api"
)

// List returns the mappings of a root in ascending order of their virtual addresses.
func List(m api.Mem, root uint32) []api.Mapping {
	var out []api.Mapping
	for x := range mappings(m, root) {
		out = append(out, x)
	}
	return out
}

// mappings yields what the tables of a root map to pages of the memory.
func mappings(m api.Mem, root uint32) iter.Seq[api.Mapping] {
	return func(yield func(api.Mapping) bool) {
		if !isRoot(m, root) {
			return
		}
		for va := range steps(0, api.MaxVirtual, largeSize) {
			first := load(m, inFirst(root, va))
			if !first.isValid() || !first.isRightFirst(m) {
				continue
			}
			for x := range below(m, first, va) {
				if isPage(m, x.PA) && !yield(x) {
					return
				}
			}
		}
	}
}

// below yields what a right first-level entry maps from a virtual address on: itself, if it is large, or the right entries of its table.
func below(m api.Mem, first entry, va uint32) iter.Seq[api.Mapping] {
	return func(yield func(api.Mapping) bool) {
		if first.isLarge() {
			yield(first.mapping(va))
			return
		}
		for at := range steps(va, va+largeSize, api.PageSize) {
			e := load(m, inSecond(first.address(), at))
			if e.isValid() && e.isRightSecond() && !yield(e.mapping(at)) {
				return
			}
		}
	}
}

// steps yields the numbers from one on that are less than an end, at equal distances.
func steps(from, end, distance uint32) iter.Seq[uint32] {
	return func(yield func(uint32) bool) {
		for n := from; n < end; n += distance {
			if !yield(n) {
				return
			}
		}
	}
}
