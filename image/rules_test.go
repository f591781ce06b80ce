package image

import (
	"bytes"
	"math/big"
	"slices"

	"simulacrum/api"
	"simulacrum/wire"
)

// The functions of this file are the chapter's rules, taken word by word. Addresses are integers of unlimited size where they may be large.

// entryRule reports whether an entry is a multiple of 4 from 0 to the last word of a memory.
func entryRule(entry, pages int) bool {
	for word := 0; word <= 128*pages-4; word += 4 {
		if entry == word {
			return true
		}
	}
	return false
}

// formRule reports whether no segment has an error.
func formRule(l []api.Segment, pages int) bool {
	size := big.NewInt(int64(128 * pages))
	for k, s := range l {
		at := big.NewInt(int64(s.At))
		end := endOf(s)
		switch {
		case s.Data == "":
			return false
		case k > 0 && at.Cmp(endOf(l[k-1])) < 0:
			return false
		case at.Sign() < 0 || end.Cmp(size) > 0:
			return false
		}
	}
	return true
}

// endOf returns the address behind a segment.
func endOf(s api.Segment) *big.Int {
	return new(big.Int).Add(big.NewInt(int64(s.At)), big.NewInt(int64(len(s.Data))))
}

// checkRule is P9.1.
func checkRule(i api.Image) api.Errno {
	switch {
	case i.Pages < 1 || i.Pages > 64:
		return api.ErrRange
	case !entryRule(i.Entry, i.Pages):
		return api.ErrRange
	case len(i.Segments) > 64:
		return api.ErrLimit
	case len(i.Disk) > 64:
		return api.ErrLimit
	case !formRule(i.Segments, i.Pages):
		return api.ErrForm
	}
	return api.OK
}

// holders returns the numbers of the segments that have an address.
func holders(i api.Image, at int) []int {
	var out []int
	for k, s := range i.Segments {
		if s.At <= at && at < s.At+len(s.Data) {
			out = append(out, k)
		}
	}
	return out
}

// loadRule is P9.2 for the memory of a right image: zeros, but for the bytes of the segments.
func loadRule(i api.Image) api.Mem {
	m := api.Mem{Pages: make([]api.Page, i.Pages)}
	for _, s := range i.Segments {
		for k := range len(s.Data) {
			m.Pages[(s.At+k)/128][(s.At+k)%128] = s.Data[k]
		}
	}
	return m
}

// cpusRule is P9.2 for the processors.
func cpusRule(i api.Image, n int) ([]api.CPU, api.Errno) {
	if e := checkRule(i); e != api.OK {
		return nil, e
	}
	if n != 1 && n != 2 && n != 3 && n != 4 {
		return nil, api.ErrArg
	}
	var out []api.CPU
	for k := 0; k < n; k++ {
		cpu := api.CPU{PC: uint32(i.Entry), Waiting: true}
		if k == 0 {
			cpu.Waiting = false
		}
		cpu.C[8] = uint32(k)
		out = append(out, cpu)
	}
	return out, api.OK
}

// ofRule is P9.3.
func ofRule(m api.Mem, entry int, disk []api.Page) (api.Image, api.Errno) {
	switch {
	case len(m.Pages) == 0 || len(m.Pages) > 64:
		return api.Image{}, api.ErrArg
	case !entryRule(entry, len(m.Pages)):
		return api.Image{}, api.ErrRange
	case len(disk) > 64:
		return api.Image{}, api.ErrLimit
	}
	i := api.Image{Entry: entry, Pages: len(m.Pages), Disk: disk}
	for n, page := range m.Pages {
		first, last := -1, -1
		for k, b := range page {
			if b != 0 && first < 0 {
				first = k
			}
			if b != 0 {
				last = k
			}
		}
		if first >= 0 {
			i.Segments = append(i.Segments, api.Segment{At: 128*n + first, Data: string(page[first : last+1])})
		}
	}
	return i, api.OK
}

// encodeRule is P9.4 for the encoding, put together piece by piece.
func encodeRule(i api.Image) []byte {
	out := wire.Int(3 + len(i.Segments))
	for _, n := range []int{i.Entry, i.Pages, len(i.Disk)} {
		out = append(out, wire.Int(n)...)
	}
	for _, s := range i.Segments {
		out = append(out, wire.Int(s.At)...)
	}
	out = append(out, wire.Int(len(i.Segments)+len(i.Disk))...)
	for _, s := range i.Segments {
		out = append(append(out, wire.Int(len(s.Data))...), s.Data...)
	}
	for _, sector := range i.Disk {
		out = append(append(out, wire.Int(128)...), sector[:]...)
	}
	return out
}

// decodeRule is P9.4 for the decoding: it makes the only image that may have the encoding, and looks whether it has.
func decodeRule(b []byte) (api.Image, api.Errno) {
	numbers, used, e := wire.GetInts(b)
	if e != api.OK {
		return api.Image{}, e
	}
	texts, _, e := wire.GetStrings(b[used:])
	if e != api.OK {
		return api.Image{}, e
	}
	if len(numbers) < 3 || len(texts) < len(numbers)-3 {
		return api.Image{}, api.ErrEncoding
	}
	i := api.Image{Entry: numbers[0], Pages: numbers[1]}
	for k, text := range texts {
		if k < len(numbers)-3 {
			i.Segments = append(i.Segments, api.Segment{At: numbers[3+k], Data: text})
			continue
		}
		var sector api.Page
		copy(sector[:], text)
		i.Disk = append(i.Disk, sector)
	}
	if !bytes.Equal(encodeRule(i), b) {
		return api.Image{}, api.ErrEncoding
	}
	if e := checkRule(i); e != api.OK {
		return api.Image{}, e
	}
	return i, api.OK
}

// same reports whether two images are equal.
func same(a, b api.Image) bool {
	return a.Entry == b.Entry && a.Pages == b.Pages && slices.Equal(a.Segments, b.Segments) && slices.Equal(a.Disk, b.Disk)
}

// isZero reports whether an image is the zero value.
func isZero(i api.Image) bool {
	return i.Entry == 0 && i.Pages == 0 && i.Segments == nil && i.Disk == nil
}

// copied returns an image that shares no memory with another one.
func copied(i api.Image) api.Image {
	i.Segments, i.Disk = append([]api.Segment(nil), i.Segments...), append([]api.Page(nil), i.Disk...)
	return i
}
