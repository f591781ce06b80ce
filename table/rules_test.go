package table

import (
	"slices"

	"simulacrum/api"
)

// The functions of this file are the chapter's words and rules, taken one by one. Addresses are integers that are large enough for all of them.

// isPageAddress: a multiple of 128 that is less than the size of the memory.
func isPageAddress(m api.Mem, at int) bool {
	for n := range m.Pages {
		if at == 128*n {
			return true
		}
	}
	return false
}

// tableAt returns the page at a page address as 32 words.
func tableAt(m api.Mem, at int) [32]uint32 {
	var out [32]uint32
	page := m.Pages[at/128]
	for k := range out {
		for n := 3; n >= 0; n-- {
			out[k] = out[k]*256 + uint32(page[4*k+n])
		}
	}
	return out
}

// withWord returns a memory in which one word of a table is another one.
func withWord(m api.Mem, table, place int, word uint32) api.Mem {
	out := copied(m)
	for n := range 4 {
		out.Pages[table/128][4*place+n] = byte(word >> (8 * n))
	}
	return out
}

// split is an entry, bit by bit.
type split struct {
	valid, write, user, exec, accessed, dirty, large bool
	address                                          int
}

func splitOf(word uint32) split {
	bit := func(n int) bool { return word/uint32(n)%2 == 1 }
	return split{bit(1), bit(2), bit(4), bit(8), bit(16), bit(32), bit(64), int(word) / 128 * 128}
}

func (s split) firstIsRight(m api.Mem) bool {
	if s.large {
		return s.address%4096 == 0
	}
	return !s.write && !s.user && !s.exec && !s.accessed && !s.dirty && isPageAddress(m, s.address)
}

// firstPlace is the bits 12 to 16 of a virtual address, secondPlace the bits 7 to 11.
func firstPlace(va uint32) int  { return int(va) / 4096 % 32 }
func secondPlace(va uint32) int { return int(va) / 128 % 32 }

// causeRule is the cause of an access.
func causeRule(access int) int {
	return map[int]int{api.AxLoad: 5, api.AxStore: 6, api.AxSwap: 6, api.AxFetch: 4}[access]
}

// walkRule is P10.1.
func walkRule(m api.Mem, root, va uint32, access int, user bool) (api.Walk, int) {
	if root == 0 {
		if int(va) >= 128*len(m.Pages) {
			return api.Walk{}, causeRule(access)
		}
		return api.Walk{At: int(va), Leaf: -1}, 0
	}
	var reads []int
	faulty := func() (api.Walk, int) { return api.Walk{Reads: reads}, causeRule(access) }
	if va >= 131072 || !isPageAddress(m, int(root)) {
		return faulty()
	}
	leafAt := int(root) + 4*firstPlace(va)
	reads = append(reads, leafAt)
	word := tableAt(m, int(root))[firstPlace(va)]
	leaf := splitOf(word)
	if !leaf.valid || !leaf.firstIsRight(m) {
		return faulty()
	}
	page := leaf.address + 128*secondPlace(va)
	if !leaf.large {
		table := leaf.address
		leafAt = table + 4*secondPlace(va)
		reads = append(reads, leafAt)
		word = tableAt(m, table)[secondPlace(va)]
		leaf = splitOf(word)
		page = leaf.address
		if !leaf.valid || leaf.large {
			return faulty()
		}
	}
	if !isPageAddress(m, page) || !mayRule(leaf, access, user) {
		return faulty()
	}
	w := api.Walk{At: page + int(va)%128, Leaf: leafAt, Reads: reads}
	store := access == api.AxStore || access == api.AxSwap
	if !leaf.accessed || store && !leaf.dirty {
		after := word | 16
		if store {
			after |= 32
		}
		w.Set = []api.Write{{At: leafAt, Size: 4, Value: after}}
	}
	return w, 0
}

// mayRule reports whether a leaf has the rights for an access.
func mayRule(leaf split, access int, user bool) bool {
	switch {
	case (access == api.AxStore || access == api.AxSwap) && !leaf.write:
		return false
	case access == api.AxFetch && !leaf.exec:
		return false
	case user && !leaf.user:
		return false
	}
	return true
}

// argumentRule reports whether the arguments of Map (n is 128) or MapLarge (n is 4096) are right.
func argumentRule(m api.Mem, root, va, pa uint32, rights, n int) bool {
	if va >= 131072 || int(va)%n != 0 || !isPageAddress(m, int(pa)) || int(pa)%n != 0 {
		return false
	}
	if !slices.Contains([]int{0, 2, 4, 6, 8, 10, 12, 14}, rights) {
		return false
	}
	return root != 0 && isPageAddress(m, int(root))
}

// mapRule is P10.2.
func mapRule(m api.Mem, root, va, pa uint32, rights int, table uint32) (api.Mem, api.Errno) {
	if !argumentRule(m, root, va, pa, rights, 128) {
		return m, api.ErrArg
	}
	first := splitOf(tableAt(m, int(root))[firstPlace(va)])
	switch {
	case first.valid && !first.firstIsRight(m):
		return m, api.ErrForm
	case first.valid && first.large:
		return m, api.ErrTwice
	case !first.valid && (table == 0 || table == root || !isPageAddress(m, int(table))):
		return m, api.ErrArg
	}
	second := first.address
	if first.valid {
		if splitOf(tableAt(m, second)[secondPlace(va)]).valid {
			return m, api.ErrTwice
		}
	} else {
		second = int(table)
		m = copied(m)
		m.Pages[second/128] = api.Page{}
		m = withWord(m, int(root), firstPlace(va), table+1)
	}
	return withWord(m, second, secondPlace(va), pa+1+uint32(rights)), api.OK
}

// mapLargeRule is P10.3.
func mapLargeRule(m api.Mem, root, va, pa uint32, rights int) (api.Mem, api.Errno) {
	if !argumentRule(m, root, va, pa, rights, 4096) {
		return m, api.ErrArg
	}
	if splitOf(tableAt(m, int(root))[firstPlace(va)]).valid {
		return m, api.ErrTwice
	}
	return withWord(m, int(root), firstPlace(va), pa+1+64+uint32(rights)), api.OK
}

// unmapRule is P10.4.
func unmapRule(m api.Mem, root, va uint32) (api.Mem, api.Errno) {
	if va >= 131072 || root == 0 || !isPageAddress(m, int(root)) {
		return m, api.ErrArg
	}
	first := splitOf(tableAt(m, int(root))[firstPlace(va)])
	switch {
	case first.valid && !first.firstIsRight(m):
		return m, api.ErrForm
	case !first.valid:
		return m, api.ErrName
	case first.large:
		return withWord(m, int(root), firstPlace(va), 0), api.OK
	case !splitOf(tableAt(m, first.address)[secondPlace(va)]).valid:
		return m, api.ErrName
	}
	return withWord(m, first.address, secondPlace(va), 0), api.OK
}

// listRule is P10.5.
func listRule(m api.Mem, root uint32) []api.Mapping {
	if root == 0 || !isPageAddress(m, int(root)) {
		return nil
	}
	var out []api.Mapping
	for k, word := range tableAt(m, int(root)) {
		first := splitOf(word)
		switch {
		case !first.valid || !first.firstIsRight(m):
		case first.large && isPageAddress(m, first.address):
			out = append(out, api.Mapping{VA: uint32(4096 * k), PA: uint32(first.address), Bits: int(word % 128)})
		case !first.large:
			for n, word := range tableAt(m, first.address) {
				if leaf := splitOf(word); leaf.valid && !leaf.large && isPageAddress(m, leaf.address) {
					out = append(out, api.Mapping{VA: uint32(4096*k + 128*n), PA: uint32(leaf.address), Bits: int(word % 128)})
				}
			}
		}
	}
	return out
}

// copied returns a memory that shares nothing with another one.
func copied(m api.Mem) api.Mem {
	return api.Mem{Pages: append([]api.Page(nil), m.Pages...)}
}
