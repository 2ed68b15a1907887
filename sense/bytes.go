package sense

import (
	"pallet/api"
	"pallet/be"
)

// The fixed format.
const (
	fixedMark    = 0x70
	fixedHasInfo = 0x80
	fixedKey     = 2
	fixedInfo    = 3
	fixedMore    = 7 // how many bytes follow
	fixedCode    = 12
	fixedField   = 15
	fixedSize    = fixedField + fieldSize
)

// The described format: a head, then a part for the info and one for the field.
const (
	describedMark = 0x72
	describedKey  = 1
	describedCode = 2
	describedMore = 7 // how many bytes follow
	describedSize = 8
	infoPartSize  = 12
	fieldPartSize = 8
	partData      = 4 // the place in a part where its info or its field bytes begin
)

// The field bytes: flags with the bit, the field.
const (
	fieldMark   = 0x80
	fieldInCmd  = 0x40
	fieldHasBit = 0x08
	fieldBit    = 0x07
	fieldSize   = 3
)

// get tells the number of n bytes, and 0 where p hasn't all of them.
func get(p []byte, at, n int) uint64 {
	v, _ := be.Get(p, at, n)
	return v
}

// put tells p with a number that fits laid in n bytes.
func put(p []byte, at, n int, v uint64) []byte {
	out, _ := be.Put(p, at, n, v)
	return out
}

// fix tells the bytes of a sense in form whose info has at most 4 bytes.
func fix(s api.Sense) []byte {
	p := make([]byte, fixedSize)
	p[0] = fixedMark
	if s.HasInfo {
		p[0] |= fixedHasInfo
	}
	p[fixedKey] = s.Key
	p[fixedMore] = fixedSize - fixedMore - 1
	p = put(p, fixedInfo, 4, s.Info)
	p = put(p, fixedCode, 2, uint64(s.Code))
	copy(p[fixedField:], fieldBytes(s))
	return p
}

// readFixed tells what stands at the places of the fixed format.
func readFixed(p []byte) api.Sense {
	s := api.Sense{
		Key:     byte(get(p, fixedKey, 1)),
		Code:    uint16(get(p, fixedCode, 2)),
		Info:    get(p, fixedInfo, 4),
		HasInfo: get(p, 0, 1)&fixedHasInfo != 0,
	}
	return withField(s, p, fixedField)
}

// describe tells the bytes of a sense in form.
func describe(s api.Sense) []byte {
	p := make([]byte, describedSize)
	p[0] = describedMark
	p[describedKey] = s.Key
	p = put(p, describedCode, 2, uint64(s.Code))
	if s.HasInfo {
		p = append(p, infoPart(s)...)
	}
	if s.HasField {
		p = append(p, fieldPart(s)...)
	}
	p[describedMore] = byte(len(p) - describedSize)
	return p
}

func infoPart(s api.Sense) []byte {
	p := make([]byte, infoPartSize)
	copy(p, []byte{0x00, infoPartSize - 2, 0x80})
	return put(p, partData, 8, s.Info)
}

func fieldPart(s api.Sense) []byte {
	p := make([]byte, fieldPartSize)
	copy(p, []byte{0x02, fieldPartSize - 2})
	copy(p[partData:], fieldBytes(s))
	return p
}

// readDescribed tells what the parts of the described format have, by their lengths alone.
func readDescribed(p []byte) api.Sense {
	s := api.Sense{
		Key:  byte(get(p, describedKey, 1)),
		Code: uint16(get(p, describedCode, 2)),
	}
	parts := p[min(describedSize, len(p)):]
	if len(parts) >= infoPartSize {
		s.Info, s.HasInfo = get(parts, partData, 8), true
		parts = parts[infoPartSize:]
	}
	return withField(s, parts, partData)
}

// fieldBytes tells the field bytes; without a field they are 0.
func fieldBytes(s api.Sense) []byte {
	p := make([]byte, fieldSize)
	if !s.HasField {
		return p
	}
	p[0] = fieldMark
	if s.InCmd {
		p[0] |= fieldInCmd
	}
	if s.Bit >= 0 {
		p[0] |= fieldHasBit | byte(s.Bit)
	}
	return put(p, 1, 2, uint64(s.Field))
}

// withField tells a sense with the field whose bytes stand at a place, if one does.
func withField(s api.Sense, p []byte, at int) api.Sense {
	flags := byte(get(p, at, 1))
	if flags&fieldMark == 0 {
		return s
	}
	s.HasField = true
	s.InCmd = flags&fieldInCmd != 0
	s.Bit = -1
	if flags&fieldHasBit != 0 {
		s.Bit = int(flags & fieldBit)
	}
	s.Field = int(get(p, at+1, 2))
	return s
}
