package image

import (
	"simulacrum/api"
	"simulacrum/hash"
	"simulacrum/wire"
)

const leading = 3 // numbers of an encoding before those of the segments

// Encode encodes an image.
func Encode(i api.Image) []byte {
	numbers := []int{i.Entry, i.Pages, len(i.Disk)}
	var texts []string
	for _, s := range i.Segments {
		numbers = append(numbers, s.At)
		texts = append(texts, s.Data)
	}
	for _, sector := range i.Disk {
		texts = append(texts, string(sector[:]))
	}
	return append(wire.Ints(numbers), wire.Strings(texts)...)
}

// Decode returns the image whose encoding some bytes are: the first error of wire; ErrEncoding if they are the encoding of no image; the error of Check.
func Decode(b []byte) (api.Image, api.Errno) {
	numbers, rest, e := read(b, wire.GetInts)
	if e != api.OK {
		return api.Image{}, e
	}
	texts, rest, e := read(rest, wire.GetStrings)
	if e != api.OK {
		return api.Image{}, e
	}
	i, ok := composed(numbers, texts)
	if !ok || len(rest) > 0 {
		return api.Image{}, api.ErrEncoding
	}
	if e := Check(i); e != api.OK {
		return api.Image{}, e
	}
	return i, api.OK
}

// Digest returns the digest of an image.
func Digest(i api.Image) api.Digest {
	return hash.Of(api.TagImage, string(Encode(i)))
}

// read gets a list from the beginning of some bytes; it returns the list, and the bytes behind it.
func read[T any](b []byte, get func([]byte) ([]T, int, api.Errno)) ([]T, []byte, api.Errno) {
	l, n, e := get(b)
	return l, b[n:], e
}

// composed returns the image whose encoding has these numbers and texts; false if there is none.
func composed(numbers []int, texts []string) (api.Image, bool) {
	if len(numbers) < leading {
		return api.Image{}, false
	}
	entry, pages, sectors, places := numbers[0], numbers[1], numbers[2], numbers[leading:]
	if sectors < 0 || len(texts)-len(places) != sectors {
		return api.Image{}, false
	}
	i := api.Image{Entry: entry, Pages: pages}
	for k, at := range places {
		i.Segments = append(i.Segments, api.Segment{At: at, Data: texts[k]})
	}
	for _, text := range texts[len(places):] {
		if len(text) != api.PageSize {
			return api.Image{}, false
		}
		i.Disk = append(i.Disk, api.Page([]byte(text)))
	}
	return i, true
}
