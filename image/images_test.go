package image

import (
	"math"
	"math/rand"

	"simulacrum/api"
)

const least, most = math.MinInt, math.MaxInt

// maker makes arbitrary images.
type maker struct{ *rand.Rand }

func newMaker(seed int64) maker { return maker{rand.New(rand.NewSource(seed))} }

// bytes returns some bytes; many of them are 0.
func (g maker) bytes(n int) string {
	out := make([]byte, n)
	for k := range out {
		if g.Intn(3) > 0 {
			out[k] = byte(g.Intn(256))
		}
	}
	return string(out)
}

func (g maker) pages() int {
	if g.Intn(8) == 0 {
		return 61 + g.Intn(4)
	}
	return 1 + g.Intn(4)
}

// segments returns right segments, with gaps and without.
func (g maker) segments(pages int) []api.Segment {
	var out []api.Segment
	for at, most := 0, g.Intn(65); len(out) < most; {
		at += g.Intn(2) * g.Intn(2*pages+2)
		n := 1 + g.Intn(2*pages+2)
		if g.Intn(8) == 0 {
			n += g.Intn(300)
		}
		if at+n > 128*pages {
			break
		}
		out = append(out, api.Segment{At: at, Data: g.bytes(n)})
		at += n
	}
	return out
}

func (g maker) disk() []api.Page {
	var out []api.Page
	for range g.Intn(4) * g.Intn(2) {
		out = append(out, api.Page([]byte(g.bytes(128))))
	}
	if g.Intn(30) == 0 {
		out = append(out, make([]api.Page, 64-len(out))...)
	}
	return out
}

// image returns a right image.
func (g maker) image() api.Image {
	pages := g.pages()
	return api.Image{Entry: 4 * g.Intn(32*pages), Pages: pages, Segments: g.segments(pages), Disk: g.disk()}
}

// memory returns a memory, with pages that are all zero among the others.
func (g maker) memory() api.Mem {
	m := api.Mem{Pages: make([]api.Page, g.pages())}
	for n := range m.Pages {
		if g.Intn(4) == 0 {
			continue
		}
		first := g.Intn(128) * g.Intn(2)
		copy(m.Pages[n][first:], g.bytes(g.Intn(129-first)))
	}
	return m
}

// changed returns an image with a change that may make it wrong.
func (g maker) changed(i api.Image) api.Image {
	i = copied(i)
	switch g.Intn(8) {
	case 0:
		i.Pages = someNumbers()[g.Intn(len(someNumbers()))]
	case 1:
		i.Pages--
	case 2:
		i.Entry = someNumbers()[g.Intn(len(someNumbers()))]
	case 3:
		i.Segments = append(i.Segments, make([]api.Segment, g.Intn(66))...)
	case 4:
		i.Disk = append(i.Disk, make([]api.Page, g.Intn(66))...)
	default:
		g.changeSegment(i.Segments)
	}
	return i
}

func (g maker) changeSegment(l []api.Segment) {
	if len(l) == 0 {
		return
	}
	s := &l[g.Intn(len(l))]
	switch g.Intn(5) {
	case 0:
		s.At = someNumbers()[g.Intn(len(someNumbers()))]
	case 1:
		s.At += g.Intn(7) - 3
	case 2:
		s.Data = g.bytes(g.Intn(len(s.Data) + 3))
	case 3:
		s.Data = ""
	case 4:
		other := &l[g.Intn(len(l))]
		*s, *other = *other, *s
	}
}

// someNumbers returns numbers at which something may change.
func someNumbers() []int {
	out := []int{least, least + 1, least + 3, least + 4, least + 128, -1 << 32, -1 << 57, -1 << 56, 1 << 32, 1<<32 + 4, 1 << 56, 1 << 57, 1<<57 + 1, 1 << 62, most - 128, most - 3, most - 1, most}
	for n := -9; n <= 9; n++ {
		out = append(out, n, 64+n, 128+n, 256+n, 8192+n)
	}
	return out
}

// somePages returns numbers of pages.
func somePages() []int { return []int{1, 2, 3, 63, 64} }
