package ring

import (
	"slices"

	"simulacrum/api"
	"simulacrum/memory"
)

const (
	wordSize  = 4                        // bytes of a word
	descWords = api.DescBytes / wordSize // words of a descriptor: the address, the length, the flags, and the status
	statusAt  = 3 * wordSize             // where the status is in a descriptor

	indexShift = 8
	indexBits  = 0xff << indexShift // the flags that are the index of what follows
	allFlags   = api.DcWrite | api.DcMore | indexBits
)

// desc is a descriptor as it is in the memory: the part that it names, and its other words.
type desc struct {
	api.Part
	flags, status uint32
}

// place returns where a descriptor is.
func place(r api.Ring, i int) int { return int(r.Base) + i*api.DescBytes }

// load returns the descriptor with an index.
func load(m api.Mem, r api.Ring, i int) desc {
	var w [descWords]uint32
	for k := range w {
		w[k], _ = memory.Load(m, place(r, i)+k*wordSize, wordSize)
	}
	return desc{
		Part:   api.Part{Index: i, At: int(w[0]), Len: int(w[1]), Write: w[2]&api.DcWrite != 0},
		flags:  w[2],
		status: w[3],
	}
}

// check returns the first error of a descriptor that follows those of some parts; whether its index of what follows is right is not its matter.
func (d desc) check(m api.Mem, before []api.Part) api.Errno {
	switch {
	case len(before) == api.MaxChain || slices.ContainsFunc(before, d.isAt):
		return api.ErrLoop
	case !d.isOffered():
		return api.ErrOffer
	case !d.isInside(m):
		return api.ErrPart
	case d.hasWrongFlags() || !d.Write && slices.ContainsFunc(before, isWritten):
		return api.ErrFlag
	}
	return api.OK
}

// isAt reports whether a part is that of the same descriptor.
func (d desc) isAt(p api.Part) bool { return p.Index == d.Index }

func (d desc) isOffered() bool { return d.status == api.StOffered }

// isInside reports whether a descriptor names as many bytes as it may, all in the memory.
func (d desc) isInside(m api.Mem) bool {
	return 1 <= d.Len && d.Len <= api.MaxPart && d.At+d.Len <= memory.Size(m)
}

// hasWrongFlags reports whether a descriptor has flags that there are not, or an index although nothing follows.
func (d desc) hasWrongFlags() bool {
	next, more := d.next()
	return d.flags&^allFlags != 0 || !more && next != 0
}

// next returns the index of what follows, and whether more follows.
func (d desc) next() (int, bool) {
	return int(d.flags & indexBits >> indexShift), d.flags&api.DcMore != 0
}

func isWritten(p api.Part) bool { return p.Write }

// status returns the word that is the status of a descriptor.
func status(r api.Ring, i int, value uint32) api.Write {
	return api.Write{At: place(r, i) + statusAt, Size: wordSize, Value: value}
}

// statuses returns the words that are the statuses of the descriptors of parts.
func statuses(r api.Ring, l []api.Part, value uint32) []api.Write {
	out := make([]api.Write, len(l))
	for k, p := range l {
		out[k] = status(r, p.Index, value)
	}
	return out
}

// write returns the memory with other words; it is new memory, even without any.
func write(m api.Mem, words ...api.Write) api.Mem {
	out, _ := memory.Apply(m, words)
	return out
}
