package sbc

import (
	"pallet/api"
	"pallet/be"
)

// The long form: how many bytes it has, and the byte that says that blocks can be unmapped.
const (
	longSize = 32
	canUnmap = 0x80
)

// capacity tells the last block's number and the size of a block; in the long form, how they are protected, too.
func (d *Dev) capacity(c api.Cmd) []byte {
	last := uint64(d.Store.Blocks() - 1)
	if !c.Long {
		return append(number(last, 4), number(api.BlockSize, 4)...)
	}
	p := append(number(last, 8), number(api.BlockSize, 4)...)
	p = append(p, d.protection(), 0x00, canUnmap)
	p = append(p, make([]byte, longSize-len(p))...)
	return p[:min(max(c.Alloc, 0), len(p))]
}

// protection tells the byte of the long capacity that says whether blocks are protected (its lowest bit) and of which type (less one) they are.
func (d *Dev) protection() byte {
	if d.Prot == 0 {
		return 0
	}
	return (d.Prot-1)<<1 | 1
}

// number tells v as n bytes.
func number(v uint64, n int) []byte {
	p, _ := be.Put(make([]byte, n), 0, n, v)
	return p
}
