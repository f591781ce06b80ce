package memory

import (
	"slices"

	"simulacrum/api"
)

// draft is a memory that nobody else has yet, so that it may be changed.
type draft struct{ api.Mem }

func begin(m api.Mem) draft {
	return draft{api.Mem{Pages: slices.Clone(m.Pages)}}
}

// store stores a number at a place, and reports whether the place is there.
func (d draft) store(w api.Write) bool {
	if !there(d.Mem, w.At, w.Size) {
		return false
	}
	b := bytesOf(w.Value)
	copy(from(d.Mem, w.At), b[:w.Size])
	return true
}

// write puts bytes into the memory, and reports whether they are all in it.
func (d draft) write(at int, data string) bool {
	if !inside(d.Mem, at, len(data)) {
		return false
	}
	for done := 0; done < len(data); {
		done += copy(from(d.Mem, at+done), data[done:])
	}
	return true
}

// all does one after the other, until one of them cannot be done.
func all(l []api.Write, do func(api.Write) bool) bool {
	for _, w := range l {
		if !do(w) {
			return false
		}
	}
	return true
}
