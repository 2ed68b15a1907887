package pi

import (
	"pallet/api"
)

const tupleSize = 8

// Size tells the bytes of a block as it goes over the wire.
func Size(with bool) int {
	if with {
		return api.BlockSize + tupleSize
	}
	return api.BlockSize
}

// Pack tells blocks as they go over the wire, with their tuples or without.
func Pack(list []api.Block, with bool) []byte {
	p := make([]byte, 0, len(list)*Size(with))
	for _, b := range list {
		p = append(p, b.Data[:]...)
		if with {
			p = appendTuple(p, b.Tuple)
		}
	}
	return p
}

func appendTuple(p []byte, t api.Tuple) []byte {
	return append(p,
		byte(t.Guard>>8), byte(t.Guard),
		byte(t.App>>8), byte(t.App),
		byte(t.Ref>>24), byte(t.Ref>>16), byte(t.Ref>>8), byte(t.Ref))
}

// Unpack tells the blocks that bytes are; false: they are no whole blocks.
func Unpack(p []byte, with bool) ([]api.Block, bool) {
	size := Size(with)
	if len(p)%size != 0 {
		return nil, false
	}
	list := make([]api.Block, len(p)/size)
	for i := range len(list) {
		one := p[i*size : (i+1)*size]
		copy(list[i].Data[:], one)
		if with {
			list[i].Tuple = readTuple(one[api.BlockSize:])
		}
	}
	return list, true
}

// readTuple tells the tuple of tupleSize bytes.
func readTuple(p []byte) api.Tuple {
	return api.Tuple{
		Guard: uint16(p[0])<<8 | uint16(p[1]),
		App:   uint16(p[2])<<8 | uint16(p[3]),
		Ref:   uint32(p[4])<<24 | uint32(p[5])<<16 | uint32(p[6])<<8 | uint32(p[7]),
	}
}
