package shell

import (
	"pallet/api"
	"pallet/chap"
)

// words reads a line word by word; it gives up by a panic with a fault.
type words struct {
	line string
	at   int // all bytes ahead of it have been read
}

// fault is what is wrong with a line, and where.
type fault struct {
	at int
	e  api.Errno
}

const (
	blank      = ' '
	mostDigits = 9 // of a number
)

// more: there is another word.
func (w *words) more() bool {
	for w.at < len(w.line) && w.line[w.at] == blank {
		w.at++
	}
	return w.at < len(w.line)
}

// word tells the next word and its place. Where there is none, it is empty and stands at the line's length: that is where one too few is told.
func (w *words) word() (string, int) {
	w.more()
	from := w.at
	for w.at < len(w.line) && w.line[w.at] != blank {
		w.at++
	}
	return w.line[from:w.at], from
}

// number reads a word that must be a number.
func (w *words) number() int {
	word, at := w.word()
	if len(word) < 1 || len(word) > mostDigits {
		giveUp(at)
	}
	n := 0
	for _, digit := range []byte(word) {
		if digit < '0' || digit > '9' {
			giveUp(at)
		}
		n = n*10 + int(digit-'0')
	}
	return n
}

// bytes reads a word that must be bytes, at least one.
func (w *words) bytes() []byte {
	word, at := w.word()
	p, e := chap.Unhex(hexMark + word)
	if e != api.OK || len(p) == 0 {
		giveUp(at)
	}
	return p
}

// end: no word may follow.
func (w *words) end() {
	if w.more() {
		giveUp(w.at)
	}
}

// giveUp ends the reading of a line in whose form something is wrong.
func giveUp(at int) { panic(fault{at, api.ErrText}) }
