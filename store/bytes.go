package store

import (
	"pallet/api"
	"pallet/be"
)

// A block's bytes in the file: the mark, the data, the tuple.
const (
	atData  = 1
	atGuard = atData + api.BlockSize
	atApp   = atGuard + 2
	atRef   = atApp + 2
	size    = atRef + 4
)

// The marks.
const (
	vacant = 0
	filled = 1
)

// place tells where a block's bytes begin.
func place(lba int) int { return lba * size }

func pack(b api.Block) []byte {
	p := make([]byte, size)
	p[0] = filled
	copy(p[atData:], b.Data[:])
	p, _ = be.Put(p, atGuard, 2, uint64(b.Tuple.Guard))
	p, _ = be.Put(p, atApp, 2, uint64(b.Tuple.App))
	p, _ = be.Put(p, atRef, 4, uint64(b.Tuple.Ref))
	return p
}

// unpack tells the block of the bytes that the file has at its place, which may be too few.
func unpack(p []byte) api.Block {
	if len(p) < size || p[0] != filled {
		return empty()
	}
	var b api.Block
	copy(b.Data[:], p[atData:])
	guard, _ := be.Get(p, atGuard, 2)
	app, _ := be.Get(p, atApp, 2)
	ref, _ := be.Get(p, atRef, 4)
	b.Tuple = api.Tuple{Guard: uint16(guard), App: uint16(app), Ref: uint32(ref)}
	return b
}

func empty() api.Block {
	return api.Block{Tuple: api.Tuple{Guard: 0xffff, App: 0xffff, Ref: 0xffffffff}}
}
