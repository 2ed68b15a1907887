package slots

import (
	"bytes"
	"slices"

	"pallet/api"
	"pallet/be"
	"pallet/crc"
)

// A slot's bytes: the mark, the generation, the payload's length, the payload, the sum.
const (
	mark      = "SLOT"
	atGen     = len(mark)
	atLength  = atGen + 8
	atPayload = atLength + 4
	sumSize   = 4
	most      = atPayload + api.MaxPayload + sumSize
)

// Record tells the bytes of a slot.
func Record(gen uint64, payload []byte) ([]byte, api.Errno) {
	if len(payload) > api.MaxPayload {
		return nil, api.ErrLong
	}
	end := atPayload + len(payload)
	p := make([]byte, end+sumSize)
	copy(p, mark)
	copy(p[atPayload:], payload)
	p, _ = be.Put(p, atGen, 8, gen)
	p, _ = be.Put(p, atLength, 4, uint64(len(payload)))
	p, _ = be.Put(p, end, sumSize, uint64(crc.C32(p[:end])))
	return p, api.OK
}

// Decode tells the generation and the payload of the slot at the front of p.
func Decode(p []byte) (uint64, []byte, api.Errno) {
	length, e := be.Get(p, atLength, 4)
	if e != api.OK || length > api.MaxPayload || !bytes.HasPrefix(p, []byte(mark)) {
		return 0, nil, api.ErrForm
	}
	end := atPayload + int(length)
	sum, e := be.Get(p, end, sumSize)
	if e != api.OK {
		return 0, nil, api.ErrForm
	}
	if sum != uint64(crc.C32(p[:end])) {
		return 0, nil, api.ErrSum
	}
	gen, _ := be.Get(p, atGen, 8)
	return gen, slices.Clone(p[atPayload:end]), api.OK
}
