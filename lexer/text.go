package lexer

import "simulacrum/api"

func readText(src string) (api.Token, int, api.Errno) {
	var out []byte
	at := 1
	for at < len(src) && src[at] != '"' {
		c, n := part(src[at:])
		if n == 0 {
			return api.Token{}, 0, api.ErrText
		}
		out = append(out, c)
		at += n
	}
	if at == len(src) {
		return api.Token{}, 0, api.ErrText
	}
	return api.Token{Kind: api.TkText, S: string(out)}, at + 1, api.OK
}

// part returns the byte of a text that a source says first, and how many bytes say it: 0 if none can.
func part(src string) (byte, int) {
	switch {
	case src[0] == '\\':
		return escaped(src)
	case plain(src[0]):
		return src[0], 1
	}
	return 0, 0
}

// escaped is part for a source that begins with a backslash.
func escaped(src string) (byte, int) {
	if len(src) < 2 {
		return 0, 0
	}
	c := src[1]
	switch c {
	case 'n':
		c = '\n'
		fallthrough
	case '"', '\\':
		return c, 2
	case 'x':
		if len(src) < 4 {
			return 0, 0
		}
		if n, ok := value(src[2:4], hexadecimal); ok {
			return byte(n), 4
		}
	}
	return 0, 0
}

func putText(out []byte, s string) []byte {
	out = append(out, '"')
	for k := range len(s) {
		out = putByte(out, s[k])
	}
	return append(out, '"')
}

// putByte appends what says a byte of a text.
func putByte(out []byte, c byte) []byte {
	switch {
	case c == '\n':
		c = 'n'
		fallthrough
	case c == '"', c == '\\':
		return append(out, '\\', c)
	case plain(c):
		return append(out, c)
	}
	return append(out, '\\', 'x', hexadecimal[c/16], hexadecimal[c%16])
}

// plain reports whether a byte of a text may stand for itself, if it is no quotation mark and no backslash.
func plain(c byte) bool { return c >= ' ' && c <= '~' }
