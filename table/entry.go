package table

import (
	"simulacrum/api"
	"simulacrum/memory"
)

const (
	wordSize  = 4                             // bytes of a word
	largeSize = api.LargePages * api.PageSize // bytes that a large entry maps
	flags     = api.PageSize - 1              // the bits of an entry that are not its address
	leafFlags = api.PtRights | api.PtAccessed | api.PtDirty
)

// entry is a word of a table.
type entry uint32

func (e entry) has(flag entry) bool { return e&flag != 0 }

func (e entry) isValid() bool { return e.has(api.PtValid) }

func (e entry) isLarge() bool { return e.has(api.PtLarge) }

func (e entry) address() uint32 { return uint32(e) &^ flags }

func (e entry) bits() int { return int(e & flags) }

// isRightFirst reports whether a valid entry of a first-level table is right in a memory.
func (e entry) isRightFirst(m api.Mem) bool {
	if e.isLarge() {
		return e.address()%largeSize == 0
	}
	return !e.has(leafFlags) && isPage(m, e.address())
}

// isRightSecond reports whether a valid entry of a second-level table is right.
func (e entry) isRightSecond() bool { return !e.isLarge() }

// page returns the page to which a leaf that is right maps a virtual address.
func (e entry) page(va uint32) uint32 {
	if e.isLarge() {
		return e.address() + va%largeSize&^flags
	}
	return e.address()
}

// allows reports whether a leaf has the rights for an access.
func (e entry) allows(access int, user bool) bool {
	switch {
	case isStore(access) && !e.has(api.PtWrite):
		return false
	case access == api.AxFetch && !e.has(api.PtExec):
		return false
	}
	return !user || e.has(api.PtUser)
}

// after returns what an access makes of a leaf.
func (e entry) after(access int) entry {
	if isStore(access) {
		return e | api.PtAccessed | api.PtDirty
	}
	return e | api.PtAccessed
}

// mapping returns what a leaf maps from a virtual address on.
func (e entry) mapping(va uint32) api.Mapping {
	return api.Mapping{VA: va, PA: e.address(), Bits: e.bits()}
}

// store returns the store of an entry to an address.
func (e entry) store(at uint32) api.Write {
	return api.Write{At: int(at), Size: wordSize, Value: uint32(e)}
}

// load returns the entry at an address that is in the memory.
func load(m api.Mem, at uint32) entry {
	word, _ := memory.Load(m, int(at), wordSize)
	return entry(word)
}

// inFirst returns the address of the entry for a virtual address in a first-level table.
func inFirst(root, va uint32) uint32 { return root + va/largeSize*wordSize }

// inSecond returns the address of the entry for a virtual address in a second-level table.
func inSecond(table, va uint32) uint32 { return table + va%largeSize/api.PageSize*wordSize }

// isPage reports whether an address is that of a page of the memory.
func isPage(m api.Mem, at uint32) bool {
	return at%api.PageSize == 0 && int(at) < memory.Size(m)
}

// isRoot reports whether there can be a first-level table at an address.
func isRoot(m api.Mem, at uint32) bool { return at != 0 && isPage(m, at) }

func isStore(access int) bool { return access == api.AxStore || access == api.AxSwap }
