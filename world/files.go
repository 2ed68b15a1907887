package world

// files are the bytes of each file, by its name.
type files map[string][]byte

// twin tells files of the same bytes in memory of their own: what is seen is written in place, and must not change what is durable.
func (f files) twin() files {
	out := files{}
	for name, p := range f {
		out[name] = laid(nil, 0, p)
	}
	return out
}

// kind is what a change does.
type kind int

const (
	write kind = iota
	rename
	remove
)

// change is what one call does to files. It is done twice: to those that are seen, and, once it waits no more, to those that are durable.
type change struct {
	kind kind
	file string
	name string // of a rename: the other name
	off  int    // of a write
	data []byte // of a write
}

// apply does the change to files.
func (c change) apply(f files) {
	switch c.kind {
	case write:
		f[c.file] = laid(f[c.file], c.off, c.data)
	case rename:
		p := f[c.file]
		// The old name goes first: a file that gets the name it has stays.
		delete(f, c.file)
		f[c.name] = p
	case remove:
		delete(f, c.file)
	}
}

// laid tells a file's bytes with data laid in them from off on, in the same memory where there is room.
func laid(p []byte, off int, data []byte) []byte {
	if lack := off + len(data) - len(p); lack > 0 {
		p = append(p, make([]byte, lack)...)
	}
	copy(p[off:], data)
	return p
}
