package xcopy

import (
	"strings"

	"pallet/api"
	"pallet/be"
)

// How many bytes the head of the parameters and the descriptors behind it have.
const (
	headSize = 16
	unitSize = 32
	segSize  = 28
)

// Where a unit's descriptor tells what; it begins with unitHead, behind which its serial stands.
const (
	unitHead   = "\xe4\x00\x00\x00\x02\x01\x00\x14"
	serialSize = 20
	zeroAt     = 28 // a byte 0
	lengthAt   = 29 // how many bytes a block has
	lengthSize = 3
)

// Where a segment's descriptor tells what; it begins with segHead.
const (
	segHead  = "\x02\x00\x00\x18"
	fromAt   = 4
	toAt     = 6
	gapAt    = 8 // two bytes 0
	blocksAt = 10
	srcAt    = 12
	dstAt    = 20
)

// Parse tells what parameters want to be copied; false: the sense tells why it can't be.
func Parse(p []byte) (List, api.Sense, bool) {
	if len(p) == 0 {
		return List{}, api.Sense{}, true
	}
	if why, ok := readHead(p); !ok {
		return List{}, why, false
	}
	var l List
	segs := headSize + count(p, 2, 2)
	for at := headSize; at < segs; at += unitSize {
		serial, why, ok := readUnit(p, at)
		if !ok {
			return List{}, why, false
		}
		l.Units = append(l.Units, serial)
	}
	for at := segs; at < len(p); at += segSize {
		s, why, ok := l.readSeg(p, at)
		if !ok {
			return List{}, why, false
		}
		l.Segs = append(l.Segs, s)
	}
	return l, api.Sense{}, true
}

// readHead tells what is wrong with the head, or with how many bytes follow it.
func readHead(p []byte) (api.Sense, bool) {
	if len(p) < headSize {
		return tooShort(), false
	}
	units, segs := count(p, 2, 2), count(p, 8, 4)
	switch {
	case count(p, 0, 2) != 0:
		return fault(0), false
	case count(p, 4, 4) != 0:
		return fault(4), false
	case count(p, 12, 4) != 0:
		return fault(12), false
	case units%unitSize != 0:
		return fault(2), false
	case segs%segSize != 0:
		return fault(8), false
	case len(p) != headSize+units+segs:
		return tooShort(), false
	case segs > api.MaxSegs*segSize || units > api.MaxUnits*unitSize:
		return tooMany(), false
	}
	return api.Sense{}, true
}

// readUnit tells the serial of the unit whose descriptor begins at a place of p.
func readUnit(p []byte, at int) (string, api.Sense, bool) {
	for i := range len(unitHead) {
		if p[at+i] != unitHead[i] {
			return "", fault(at + i), false
		}
	}
	switch {
	case p[at+zeroAt] != 0:
		return "", fault(at + zeroAt), false
	case count(p, at+lengthAt, lengthSize) != api.BlockSize:
		return "", fault(at + lengthAt), false
	}
	serial := string(p[at+len(unitHead) : at+len(unitHead)+serialSize])
	return strings.TrimRight(serial, " "), api.Sense{}, true
}

// readSeg tells the segment whose descriptor begins at a place of p, of a list that has its units.
func (l List) readSeg(p []byte, at int) (Seg, api.Sense, bool) {
	s := Seg{
		From:   count(p, at+fromAt, 2),
		To:     count(p, at+toAt, 2),
		Blocks: count(p, at+blocksAt, 2),
		Src:    number(p, at+srcAt, 8),
		Dst:    number(p, at+dstAt, 8),
	}
	switch {
	case string(p[at:at+len(segHead)]) != segHead:
		return Seg{}, fault(at), false
	case count(p, at+gapAt, 2) != 0:
		return Seg{}, fault(at + gapAt), false
	case !l.has(s.From):
		return Seg{}, fault(at + fromAt), false
	case !l.has(s.To):
		return Seg{}, fault(at + toAt), false
	case s.Blocks > api.MaxBurst:
		return Seg{}, fault(at + blocksAt), false
	}
	return s, api.Sense{}, true
}

// Bytes tells the parameters that want a list to be copied.
func Bytes(l List) ([]byte, api.Errno) {
	if len(l.Units) > api.MaxUnits || len(l.Segs) > api.MaxSegs {
		return nil, api.ErrLong
	}
	if !l.formed() {
		return nil, api.ErrForm
	}
	p := put(make([]byte, headSize), 2, 2, uint64(len(l.Units)*unitSize))
	p = put(p, 8, 4, uint64(len(l.Segs)*segSize))
	for _, serial := range l.Units {
		p = append(p, layUnit(serial)...)
	}
	for _, s := range l.Segs {
		p = append(p, s.lay()...)
	}
	return p, api.OK
}

// formed: parameters can tell each serial and each segment.
func (l List) formed() bool {
	for _, serial := range l.Units {
		if len(serial) > serialSize || strings.HasSuffix(serial, " ") {
			return false
		}
	}
	for _, s := range l.Segs {
		if !l.has(s.From) || !l.has(s.To) || s.Blocks < 0 || s.Blocks > api.MaxBurst {
			return false
		}
	}
	return true
}

// layUnit tells a unit's descriptor.
func layUnit(serial string) []byte {
	text := unitHead + serial + strings.Repeat(" ", serialSize-len(serial))
	p := make([]byte, unitSize)
	copy(p, text)
	return put(p, lengthAt, lengthSize, api.BlockSize)
}

// lay tells a segment's descriptor.
func (s Seg) lay() []byte {
	p := make([]byte, segSize)
	copy(p, segHead)
	p = put(p, fromAt, 2, uint64(s.From))
	p = put(p, toAt, 2, uint64(s.To))
	p = put(p, blocksAt, 2, uint64(s.Blocks))
	p = put(p, srcAt, 8, s.Src)
	return put(p, dstAt, 8, s.Dst)
}

// put tells p with a number in n of its bytes, which are there and into which it fits.
func put(p []byte, at, n int, v uint64) []byte {
	p, _ = be.Put(p, at, n, v)
	return p
}

// number tells the number in n bytes that are there.
func number(p []byte, at, n int) uint64 {
	v, _ := be.Get(p, at, n)
	return v
}

// count tells the number of at most 4 bytes that are there.
func count(p []byte, at, n int) int { return int(number(p, at, n)) }

// fault tells the sense of a byte of the parameters that is wrong.
func fault(field int) api.Sense {
	return api.Sense{Key: api.IllegalReq, Code: api.InvalidParam, Field: field, Bit: -1, HasField: true}
}

// tooShort tells the sense of parameters that have another length than they say.
func tooShort() api.Sense { return api.Sense{Key: api.IllegalReq, Code: api.ParamLength} }

func tooMany() api.Sense { return api.Sense{Key: api.IllegalReq, Code: api.TooManySegs} }
