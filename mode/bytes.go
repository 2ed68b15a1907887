package mode

import (
	"math/bits"

	"pallet/api"
)

// The pages, by their first bytes; both is no page that parameters bring.
const (
	caching = 0x08
	control = 0x0a
	both    = 0x3f
)

// How many bytes they have, and their heads.
const (
	cachingSize = 20
	controlSize = 12
	shortHead   = 4
	longHead    = 8
)

// Where the values stand in their pages, and as which bits.
const (
	wceAt     = 2
	wceBit    = 0x04
	dsenseAt  = 2
	dsenseBit = 0x04
	swpAt     = 4
	swpBit    = 0x08
)

// noBit is told of a fault that is no single bit's.
const noBit = -1

// lay tells the pages of these values that a code stands for; nil: it stands for none.
func lay(code byte, v Values) []byte {
	switch code {
	case caching:
		return layCaching(v)
	case control:
		return layControl(v)
	case both:
		return append(layCaching(v), layControl(v)...)
	}
	return nil
}

func layCaching(v Values) []byte {
	p := make([]byte, cachingSize)
	p[0], p[1] = caching, cachingSize-2
	if v.WCE {
		p[wceAt] |= wceBit
	}
	return p
}

func layControl(v Values) []byte {
	p := make([]byte, controlSize)
	p[0], p[1] = control, controlSize-2
	if v.DSense {
		p[dsenseAt] |= dsenseBit
	}
	if v.SWP {
		p[swpAt] |= swpBit
	}
	return p
}

// head tells what stands in front of so many bytes of pages, while these values are the current ones.
func head(long bool, size int, now Values) []byte {
	device := byte(0x10)
	if now.SWP {
		device |= 0x80
	}
	if long {
		return []byte{0x00, byte(longHead - 2 + size), 0x00, device, 0x00, 0x00, 0x00, 0x00}
	}
	return []byte{byte(shortHead - 1 + size), 0x00, device, 0x00}
}

// read tells what values v are behind parameters, or what is wrong with these.
func read(v Values, long bool, p []byte) (Values, api.Sense, bool) {
	at, why, ok := readHead(long, p)
	for ok && at < len(p) {
		var page []byte
		page, why, ok = readPage(p, at)
		if ok {
			v = v.with(page)
			at += len(page)
		}
	}
	return v, why, ok
}

// readHead tells the place behind the head.
func readHead(long bool, p []byte) (int, api.Sense, bool) {
	size, free := shortHead, 2 // free: this byte may be anything
	if long {
		size, free = longHead, 3
	}
	if len(p) < size {
		return 0, tooShort(), false
	}
	for at := range size {
		if at != free && p[at] != 0 {
			return 0, fault(at, noBit), false
		}
	}
	return size, api.Sense{}, true
}

// readPage tells the page that begins at a place of p.
func readPage(p []byte, at int) ([]byte, api.Sense, bool) {
	rest := p[at:]
	if rest[0] != caching && rest[0] != control {
		return nil, fault(at, noBit), false
	}
	// The page in which every value holds has just the bits that one may have.
	mask := lay(rest[0], every())
	switch {
	case len(rest) < 2:
		return nil, tooShort(), false
	case rest[1] != mask[1]:
		return nil, fault(at+1, noBit), false
	case len(rest) < len(mask):
		return nil, tooShort(), false
	}
	for i := 2; i < len(mask); i++ {
		if extra := rest[i] &^ mask[i]; extra != 0 {
			return nil, fault(at+i, bits.Len8(extra)-1), false
		}
	}
	return rest[:len(mask)], api.Sense{}, true
}

// with tells the values behind one page: those of the other page stay.
func (v Values) with(page []byte) Values {
	if page[0] == caching {
		v.WCE = page[wceAt]&wceBit != 0
		return v
	}
	v.DSense = page[dsenseAt]&dsenseBit != 0
	v.SWP = page[swpAt]&swpBit != 0
	return v
}

// fault tells the sense of a byte of the parameters that is wrong.
func fault(field, bit int) api.Sense {
	return api.Sense{Key: api.IllegalReq, Code: api.InvalidParam, Field: field, Bit: bit, HasField: true}
}

// tooShort tells the sense of parameters that end too early.
func tooShort() api.Sense {
	return api.Sense{Key: api.IllegalReq, Code: api.ParamLength}
}
