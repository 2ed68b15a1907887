package mode

import (
	"encoding/hex"
	"math/rand"
	"strings"

	"pallet/api"
)

// mustHex tells the bytes of a text in base 16; blanks are for the eye.
func mustHex(text string) []byte {
	p, err := hex.DecodeString(strings.ReplaceAll(text, " ", ""))
	if err != nil {
		panic(err)
	}
	return p
}

// choose tells one text or the other one.
func choose(b bool, yes, no string) string {
	if b {
		return yes
	}
	return no
}

// cachingPage and controlPage are the chapter's words, as text.
func cachingPage(v Values) []byte {
	return mustHex("08 12" + choose(v.WCE, "04", "00") + strings.Repeat("00", 17))
}

func controlPage(v Values) []byte {
	return mustHex("0a 0a" + choose(v.DSense, "04", "00") + "00" + choose(v.SWP, "08", "00") + strings.Repeat("00", 7))
}

// allValues has every value that Values can be.
func allValues() []Values {
	var list []Values
	for n := range 8 {
		list = append(list, Values{WCE: n&1 != 0, DSense: n&2 != 0, SWP: n&4 != 0})
	}
	return list
}

// Senses, each field told by its number.

func commandFault(field, bit int) api.Sense {
	return api.Sense{Key: 5, Code: 0x2400, Field: field, Bit: bit, HasField: true, InCmd: true}
}

func paramFault(field, bit int) api.Sense {
	return api.Sense{Key: 5, Code: 0x2600, Field: field, Bit: bit, HasField: true}
}

func lengthFault() api.Sense { return api.Sense{Key: 5, Code: 0x1a00} }

// model is what pages are, told anew.
type model struct {
	now, saved Values
}

func (m model) sense(c api.Cmd) ([]byte, api.Sense, bool) {
	v := m.now
	switch c.Control {
	case 1:
		v = Values{true, true, true}
	case 2:
		v = Values{true, false, false}
	case 3:
		v = m.saved
	}
	var p []byte
	if c.Page == 0x08 || c.Page == 0x3f {
		p = append(p, cachingPage(v)...)
	}
	if c.Page == 0x0a || c.Page == 0x3f {
		p = append(p, controlPage(v)...)
	}
	if p == nil {
		return nil, commandFault(2, 5), false
	}
	device := choose(m.now.SWP, "90", "10")
	if c.Long {
		front := mustHex("00 00 00" + device + "00000000")
		front[1] = byte(6 + len(p))
		return append(front, p...), api.Sense{}, true
	}
	front := mustHex("00 00" + device + "00")
	front[0] = byte(3 + len(p))
	return append(front, p...), api.Sense{}, true
}

// sel goes through the parameters byte by byte, and each byte bit by bit.
func (m *model) sel(c api.Cmd, p []byte) (bool, api.Sense, bool) {
	if len(p) == 0 {
		return false, api.Sense{}, true
	}
	size, free := 4, 2
	if c.Long {
		size, free = 8, 3
	}
	if len(p) < size {
		return false, lengthFault(), false
	}
	for at := 0; at < size; at++ {
		if at != free && p[at] != 0 {
			return false, paramFault(at, -1), false
		}
	}
	v := m.now
	for at := size; at < len(p); {
		next, why, ok := modelPage(&v, p, at)
		if !ok {
			return false, why, false
		}
		at = next
	}
	changed := v.WCE != m.now.WCE || v.DSense != m.now.DSense || v.SWP != m.now.SWP
	m.now = v
	if c.Save {
		m.saved = v
	}
	return changed, api.Sense{}, true
}

// modelPage takes the page at a place over, and tells the place behind it.
func modelPage(v *Values, p []byte, at int) (int, api.Sense, bool) {
	code, size := p[at], 0
	switch code {
	case 0x08:
		size = 20
	case 0x0a:
		size = 12
	default:
		return 0, paramFault(at, -1), false
	}
	if at+1 == len(p) {
		return 0, lengthFault(), false
	}
	if int(p[at+1]) != size-2 {
		return 0, paramFault(at+1, -1), false
	}
	if at+size > len(p) {
		return 0, lengthFault(), false
	}
	for i := 2; i < size; i++ {
		for bit := 7; bit >= 0; bit-- {
			here := p[at+i]>>bit&1 == 1
			switch {
			case code == 0x08 && i == 2 && bit == 2:
				v.WCE = here
			case code == 0x0a && i == 2 && bit == 2:
				v.DSense = here
			case code == 0x0a && i == 4 && bit == 3:
				v.SWP = here
			case here:
				return 0, paramFault(at+i, bit), false
			}
		}
	}
	return at + size, api.Sense{}, true
}

// anyParams tells parameters that are in form, or nearly so.
func anyParams(r *rand.Rand, long bool) []byte {
	p, free := make([]byte, 4), 2
	if long {
		p, free = make([]byte, 8), 3
	}
	p[free] = byte(r.Intn(256))
	for range r.Intn(5) {
		v := allValues()[r.Intn(8)]
		if r.Intn(2) == 0 {
			p = append(p, cachingPage(v)...)
		} else {
			p = append(p, controlPage(v)...)
		}
	}
	if r.Intn(3) == 0 {
		p[r.Intn(len(p))] ^= 1 << r.Intn(8)
	}
	if r.Intn(4) == 0 {
		p = p[:r.Intn(len(p)+1)]
	}
	if r.Intn(8) == 0 {
		p = append(p, byte(r.Intn(12)))
	}
	return p
}
