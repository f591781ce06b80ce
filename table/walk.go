package table

import (
	"simulacrum/api"
	"simulacrum/memory"
)

// fault is what a walk panics with where there is no translation.
type fault struct{}

// need ends a walk with a fault unless a condition holds.
func need(holds bool) {
	if !holds {
		panic(fault{})
	}
}

// walker walks through the tables in a memory, and keeps which entries it has read.
type walker struct {
	mem   api.Mem
	reads []int
}

// Walk translates a virtual address for an access, by the tables of a root (0: without translation). Where it faults, the second result is the cause, and the first one has the entries that were read.
func Walk(m api.Mem, root, va uint32, access int, user bool) (w api.Walk, cause int) {
	t := walker{mem: m}
	defer func() {
		if recover() != nil {
			w, cause = api.Walk{Reads: t.reads}, causeOf(access)
		}
	}()
	if root == 0 {
		return t.untranslated(va), 0
	}
	return t.translated(root, va, access, user), 0
}

func (t *walker) untranslated(va uint32) api.Walk {
	need(int(va) < memory.Size(t.mem))
	return api.Walk{At: int(va), Leaf: -1}
}

func (t *walker) translated(root, va uint32, access int, user bool) api.Walk {
	need(va < api.MaxVirtual && isPage(t.mem, root))
	at, leaf := t.leaf(root, va)
	page := leaf.page(va)
	need(isPage(t.mem, page))
	need(leaf.allows(access, user))
	w := api.Walk{At: int(page + va%api.PageSize), Leaf: int(at), Reads: t.reads}
	if next := leaf.after(access); next != leaf {
		w.Set = []api.Write{next.store(at)}
	}
	return w
}

// leaf returns the leaf of a virtual address, and where it is.
func (t *walker) leaf(root, va uint32) (uint32, entry) {
	at := inFirst(root, va)
	e := t.read(at)
	need(e.isValid() && e.isRightFirst(t.mem))
	if e.isLarge() {
		return at, e
	}
	at = inSecond(e.address(), va)
	e = t.read(at)
	need(e.isValid() && e.isRightSecond())
	return at, e
}

func (t *walker) read(at uint32) entry {
	t.reads = append(t.reads, int(at))
	return load(t.mem, at)
}

// causeOf returns the cause of the trap if an access faults.
func causeOf(access int) int {
	switch {
	case isStore(access):
		return api.CaStore
	case access == api.AxFetch:
		return api.CaFetch
	}
	return api.CaLoad
}
