package merkle

import (
	"math/bits"

	"simulacrum/api"
)

// Append returns the peaks of a list with one more element.
func Append(p api.Peaks, leaf api.Digest) (api.Peaks, api.Errno) {
	if !wellFormed(p) {
		return api.Peaks{}, api.ErrForm
	}
	if p.Size == api.MaxLeaves {
		return api.Peaks{}, api.ErrLimit
	}
	kept := len(p.Tops)
	for size := p.Size; size%2 == 1; size /= 2 { // the last parts are as large as what has come: they become one
		kept--
		leaf = Node(p.Tops[kept], leaf)
	}
	// With no room behind it, the kept slice is copied, and lists that go on from the same peaks do not meet.
	return api.Peaks{Size: p.Size + 1, Tops: append(p.Tops[:kept:kept], leaf)}, api.OK
}

// Top returns the root of a list.
func Top(p api.Peaks) (api.Digest, api.Errno) {
	if !wellFormed(p) {
		return api.Digest{}, api.ErrForm
	}
	if p.Size == 0 {
		return emptyRoot(), api.OK
	}
	last := len(p.Tops) - 1
	root := p.Tops[last]
	for i := last - 1; i >= 0; i-- {
		root = Node(p.Tops[i], root)
	}
	return root, api.OK
}

func wellFormed(p api.Peaks) bool {
	return p.Size >= 0 && p.Size <= api.MaxLeaves && len(p.Tops) == bits.OnesCount(uint(p.Size))
}
