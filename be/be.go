// Package be is layer 1: numbers as bytes, the highest byte first, and ranges of numbers.
package be

import (
	"math/bits"

	"pallet/api"
)

// Get tells the number that the n bytes of p from the place at on are.
func Get(p []byte, at, n int) (uint64, api.Errno) {
	if !width(n) {
		return 0, api.ErrArg
	}
	if !inside(p, at, n) {
		return 0, api.ErrRange
	}
	v := uint64(0)
	for i := range n {
		v = v<<8 | uint64(p[at+i])
	}
	return v, api.OK
}

// Put tells a copy of p with v laid in the n bytes from the place at on.
func Put(p []byte, at, n int, v uint64) ([]byte, api.Errno) {
	if !width(n) {
		return nil, api.ErrArg
	}
	if v>>(8*n) != 0 {
		return nil, api.ErrForm
	}
	if !inside(p, at, n) {
		return nil, api.ErrRange
	}
	out := make([]byte, len(p))
	copy(out, p)
	for i := range n {
		out[at+i] = byte(v >> (8 * (n - 1 - i)))
	}
	return out, api.OK
}

// width: a number can have so many bytes.
func width(n int) bool { return n >= 1 && n <= 8 }

// inside subtracts rather than adds, for at + n may wrap round; n is a width.
func inside(p []byte, at, n int) bool { return at >= 0 && at <= len(p)-n }

// Within tells whether n blocks from lba on lie among so many blocks.
func Within(lba, n, blocks uint64) bool {
	// A sum may wrap round; this difference doesn't.
	return n <= blocks && lba <= blocks-n
}

// Meet tells whether a number is among the n from a on and among the m from b on.
func Meet(a, n, b, m uint64) bool {
	// If any number is in both ranges, the greater of their beginnings is: no sum, that may wrap round, is needed.
	if a > b {
		a, n, b, m = b, m, a, n
	}
	return m > 0 && b-a < n
}

// Odd tells the first place of p whose byte has a bit that the mask has not, and its highest such bit; -1, -1: there is none.
func Odd(p, mask []byte) (int, int) {
	for i := range len(p) {
		extra := p[i]
		if i < len(mask) {
			extra &^= mask[i]
		}
		if extra != 0 {
			return i, bits.Len8(extra) - 1
		}
	}
	return -1, -1
}

// Pad tells how many bytes lack from n to the next multiple of four.
func Pad(n int) int {
	if n < 0 {
		return 0
	}
	return (4 - n%4) % 4
}
