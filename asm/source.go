package asm

import (
	"strconv"

	"simulacrum/api"
	"simulacrum/lexer"
)

// check returns the first error of an image.
func check(i api.Image) api.Errno {
	size := i.Pages * api.PageSize
	switch {
	case i.Pages < 1 || i.Pages > api.MaxPages:
		return api.ErrRange
	case i.Entry < 0 || i.Entry >= size || i.Entry%wordSize != 0:
		return api.ErrRange
	case len(i.Segments) > api.MaxSegments || len(i.Disk) > api.MaxSectors:
		return api.ErrLimit
	}
	end := 0
	for _, s := range i.Segments {
		n := len(s.Data)
		// At and n are not added before it is known that they are small.
		if n == 0 || s.At < end || s.At > size-n {
			return api.ErrForm
		}
		end = s.At + n
	}
	return api.OK
}

// imageLines returns the lines of the source of a right image.
func imageLines(i api.Image) []string {
	out := []string{".pages " + strconv.Itoa(i.Pages), ".entry " + strconv.Itoa(i.Entry)}
	for _, s := range i.Segments {
		out = append(out, ".org "+strconv.Itoa(s.At))
		out = append(out, segmentLines(s)...)
	}
	for _, sector := range i.Disk {
		out = append(out, ".disk "+quoted(string(sector[:])))
	}
	return out
}

// segmentLines returns the lines of the bytes of a segment: those of a whole word, or of single bytes.
func segmentLines(s api.Segment) []string {
	var out []string
	for k := 0; k < len(s.Data); {
		at := s.At + k
		if at%wordSize == 0 && len(s.Data)-k >= wordSize {
			out = append(out, Instruction(wordAt(s.Data[k:]), uint32(at)))
			k += wordSize
		} else {
			out = append(out, ".text "+quoted(s.Data[k:k+1]))
			k++
		}
	}
	return out
}

func wordLine(w uint32) string { return ".word " + strconv.FormatUint(uint64(w), 10) }

// wordAt returns the word with which some bytes begin.
func wordAt(data string) uint32 {
	w := uint32(0)
	for k := range wordSize {
		w |= uint32(data[k]) << (8 * k)
	}
	return w
}

// quoted returns a text, of a page at most, as it stands in a source.
func quoted(s string) string {
	out, _ := lexer.Print([]api.Token{{Kind: api.TkText, S: s}})
	return out
}
