package ring

import (
	"strings"

	"simulacrum/api"
	"simulacrum/memory"
)

// Gather returns the bytes of the parts that are read, in order.
func Gather(m api.Mem, l []api.Part) string {
	var out strings.Builder
	for _, p := range l {
		if !p.Write {
			data, _ := memory.Read(m, p.At, p.Len)
			out.WriteString(data)
		}
	}
	return out.String()
}

// Room returns how many bytes the parts that are written have.
func Room(l []api.Part) int {
	room := 0
	for _, p := range l {
		if p.Write {
			room += p.Len
		}
	}
	return room
}

// Scatter writes data to the parts that are written, in order, as far as there is room, and returns how many bytes it has written.
func Scatter(m api.Mem, l []api.Part, data string) (api.Mem, int) {
	out, done := write(m), 0
	for _, p := range l {
		if p.Write {
			some := upTo(data[done:], p.Len)
			out, _ = memory.Write(out, p.At, some)
			done += len(some)
		}
	}
	return out, done
}

// upTo returns the first n bytes of a text, or all of them if there are fewer; none if n, which a part of no request may have, is negative.
func upTo(s string, n int) string { return s[:max(0, min(n, len(s)))] }
