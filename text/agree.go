package text

import (
	"iter"
	"slices"
	"strconv"
	"strings"
)

// What is answered to an offer.
const (
	yes    = "Yes"
	no     = "No"
	reject = "Reject"
)

// Number tells the number that a text is, and whether it is one.
func Number(s string) (uint64, bool) {
	digits, base := s, 10
	if after, found := strings.CutPrefix(s, "0x"); found {
		digits, base = after, 16
	} else if len(s) > 1 && s[0] == '0' {
		return 0, false
	}
	// With a base told, digits alone are taken: no sign, no _ and no second 0x.
	v, err := strconv.ParseUint(digits, base, 64)
	if err != nil {
		return 0, false
	}
	return v, true
}

// Least tells the lesser one of an offered number and our own; Reject: the offer is no number from low to high.
func Least(offer string, own, low, high uint64) string {
	v, ok := Number(offer)
	if !ok || v < low || v > high {
		return reject
	}
	return strconv.FormatUint(min(v, own), 10)
}

// Both tells Yes, if both sides say so; Reject: the offer is neither Yes nor No.
func Both(offer string, own bool) string {
	return answer(offer, offer == yes && own)
}

// Either tells Yes, if one of the sides says so; Reject: the offer is neither Yes nor No.
func Either(offer string, own bool) string {
	return answer(offer, offer == yes || own)
}

// answer tells what two sides came to as a word, if the offer was one.
func answer(offer string, agreed bool) string {
	switch {
	case offer != yes && offer != no:
		return reject
	case agreed:
		return yes
	}
	return no
}

// First tells the first piece of an offer that is one of our own; Reject: none is.
func First(offer string, own []string) string {
	for piece := range pieces(offer) {
		if slices.Contains(own, piece) {
			return piece
		}
	}
	return reject
}

// pieces goes through what stands between the commas of a text, be it empty.
func pieces(s string) iter.Seq[string] {
	return func(yield func(string) bool) {
		rest, more := s, true
		for more {
			var piece string
			piece, rest, more = strings.Cut(rest, ",")
			if !yield(piece) {
				return
			}
		}
	}
}
