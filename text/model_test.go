package text

import (
	"bytes"
	"math/big"
	"math/rand"
	"regexp"
	"slices"
	"strconv"
	"strings"
	"testing"

	"pallet/api"
)

var (
	keyForm   = regexp.MustCompile(`\A[A-Za-z0-9.+_-]{1,63}\z`)
	valueForm = regexp.MustCompile(`\A[\x20-\x7e]{0,255}\z`)
	lineForm  = regexp.MustCompile(`\A([^=]*)=((?s).*)\z`)
	decimal   = regexp.MustCompile(`\A(0|[1-9][0-9]*)\z`)
	sixteen   = regexp.MustCompile(`\A0x([0-9a-fA-F]+)\z`)
)

// pairs tells pairs of keys and values in turn.
func pairs(texts ...string) []api.Pair {
	var l []api.Pair
	for at := 0; at < len(texts); at += 2 {
		l = append(l, api.Pair{Key: texts[at], Value: texts[at+1]})
	}
	return l
}

func inForm(p api.Pair) bool {
	return keyForm.MatchString(p.Key) && valueForm.MatchString(p.Value)
}

// sameKey: two pairs have one key.
func sameKey(l []api.Pair) bool {
	count := map[string]int{}
	for _, p := range l {
		count[p.Key]++
	}
	return len(count) < len(l)
}

// join tells pairs as a text, be they in form or not.
func join(l []api.Pair) []byte {
	var out bytes.Buffer
	for _, p := range l {
		out.WriteString(p.Key + "=" + p.Value + "\x00")
	}
	return out.Bytes()
}

// modelParse is Parse, told anew.
func modelParse(p []byte) ([]api.Pair, api.Errno) {
	if len(p) > 4096 {
		return nil, api.ErrLong
	}
	lines := strings.Split(string(p), "\x00")
	if lines[len(lines)-1] != "" {
		return nil, api.ErrText
	}
	var l []api.Pair
	for _, line := range lines[:len(lines)-1] {
		m := lineForm.FindStringSubmatch(line)
		if m == nil || !inForm(api.Pair{Key: m[1], Value: m[2]}) {
			return nil, api.ErrText
		}
		l = append(l, api.Pair{Key: m[1], Value: m[2]})
	}
	switch {
	case len(l) > 64:
		return nil, api.ErrLong
	case sameKey(l):
		return nil, api.ErrExists
	}
	return l, api.OK
}

// modelWrite is Write, told anew.
func modelWrite(l []api.Pair) ([]byte, api.Errno) {
	switch p := join(l); {
	case len(l) > 64:
		return nil, api.ErrLong
	case slices.ContainsFunc(l, func(p api.Pair) bool { return !inForm(p) }):
		return nil, api.ErrText
	case len(p) > 4096:
		return nil, api.ErrLong
	case sameKey(l):
		return nil, api.ErrExists
	default:
		return p, api.OK
	}
}

// modelNumber is Number, told anew: by true numbers.
func modelNumber(s string) (uint64, bool) {
	digits, base := s, 10
	if m := sixteen.FindStringSubmatch(s); m != nil {
		digits, base = m[1], 16
	} else if !decimal.MatchString(s) {
		return 0, false
	}
	v, _ := new(big.Int).SetString(digits, base)
	return v.Uint64() * uint64(bit(v.IsUint64())), v.IsUint64()
}

func bit(b bool) int {
	if b {
		return 1
	}
	return 0
}

// modelFirst is First, told anew.
func modelFirst(offer string, own []string) string {
	for _, piece := range strings.Split(offer, ",") {
		for _, one := range own {
			if one == piece {
				return one
			}
		}
	}
	return "Reject"
}

// numbered tells so many pairs with keys of their own.
func numbered(n int) []api.Pair {
	var l []api.Pair
	for i := range n {
		l = append(l, api.Pair{Key: "k" + strconv.Itoa(i), Value: strconv.Itoa(7 * i)})
	}
	return l
}

// sized tells pairs whose text has just so many bytes, at least 320.
func sized(size int) []api.Pair {
	var l []api.Pair
	for i := 0; size > 0; i++ {
		n := min(size, 255+4)
		if left := size - n; left > 0 && left < 4 {
			n -= 4
		}
		l = append(l, api.Pair{Key: string(rune('A'+i/26)) + string(rune('a'+i%26)), Value: strings.Repeat("v", n-4)})
		size -= n
	}
	return l
}

// anyOf tells up to most characters out of some.
func anyOf(r *rand.Rand, from string, least, most int) string {
	p := make([]byte, least+r.Intn(most-least+1))
	for i := range p {
		p[i] = from[r.Intn(len(from))]
	}
	return string(p)
}

func anyPairs(r *rand.Rand) []api.Pair {
	most := []int{4, 40, 66}[r.Intn(3)]
	width := []int{3, 3, 63, 300}[r.Intn(4)]
	var l []api.Pair
	for range r.Intn(most + 1) {
		p := api.Pair{Key: anyOf(r, "abcdefghijklmnopqrstuvwxyz.-+_ABCXYZ0189", 1, min(width, 63)), Value: anyOf(r, " ~=azAZ09,", 0, min(width, 255))}
		if r.Intn(100) == 0 {
			p.Key = anyOf(r, "ab =\x00/:\xe4", 0, 64)
		}
		if r.Intn(100) == 0 {
			p.Value = anyOf(r, "ab\x00\x1f\x7f\x80", 0, 256)
		}
		l = append(l, p)
	}
	return l
}

func wantParse(t *testing.T, p []byte, wanted []api.Pair) {
	t.Helper()
	if got, e := Parse(p); !slices.Equal(got, wanted) || e != api.OK {
		t.Fatalf("Parse(%q) = %q, %d; want %q", p, got, e, wanted)
	}
}

func wantNoParse(t *testing.T, p []byte, wanted api.Errno) {
	t.Helper()
	if got, e := Parse(p); len(got) != 0 || e != wanted {
		t.Fatalf("Parse(%q) = %q, %d; want %d", p, got, e, wanted)
	}
}

func wantWrite(t *testing.T, l []api.Pair, wanted []byte) {
	t.Helper()
	if got, e := Write(l); !bytes.Equal(got, wanted) || e != api.OK {
		t.Fatalf("Write(%q) = %q, %d; want %q", l, got, e, wanted)
	}
}

func wantNoWrite(t *testing.T, l []api.Pair, wanted api.Errno) {
	t.Helper()
	if got, e := Write(l); len(got) != 0 || e != wanted {
		t.Fatalf("Write(%q) = %q, %d; want %d", l, got, e, wanted)
	}
}

// wantBoth holds that pairs and their text are told from each other.
func wantBoth(t *testing.T, l []api.Pair) {
	t.Helper()
	wantWrite(t, l, join(l))
	wantParse(t, join(l), l)
}

// wantNeither holds that neither of them is.
func wantNeither(t *testing.T, l []api.Pair, wanted api.Errno) {
	t.Helper()
	wantNoWrite(t, l, wanted)
	wantNoParse(t, join(l), wanted)
}

func wantNumber(t *testing.T, s string, wanted uint64) {
	t.Helper()
	if got, ok := Number(s); got != wanted || !ok {
		t.Errorf("Number(%q) = %d, %v; want %d", s, got, ok, wanted)
	}
}

func wantNoNumber(t *testing.T, s string) {
	t.Helper()
	if got, ok := Number(s); got != 0 || ok {
		t.Errorf("Number(%q) = %d, %v; want none", s, got, ok)
	}
}
