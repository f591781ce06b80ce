package lines

// lineNumber is the number of a line, as package api has it.
type lineNumber int

const (
	clock lineNumber = iota
	console
	block
	net
	signal
	end // the first number behind the lines
)

const every = 1<<end - 1 // the bits of all lines

// is reports whether there is a line with this number.
func (l lineNumber) is() bool { return clock <= l && l < end }

// ofDevice reports whether this is the line of a device.
func (l lineNumber) ofDevice() bool { return l == console || l == block || l == net }

// bit returns the bit of a line.
func (l lineNumber) bit() uint32 { return 1 << l }
