package sbc

import (
	"pallet/api"
	"pallet/be"
)

// The parameters of Unmap: a head, then descriptors, each an LBA and a count.
const (
	headSize  = 8
	partSize  = 16
	countAt   = 8
	countSize = 4
)

// part is what a descriptor tells: n blocks from lba on.
type part struct {
	lba, n uint64
}

// unmap empties the blocks that the descriptors name, if all of these are right.
func (d *Dev) unmap(p []byte) api.Sense {
	if len(p) == 0 {
		return api.Sense{}
	}
	if !framed(p) {
		return wrongLength()
	}
	list, why := d.parts(p)
	if ended(why) {
		return why
	}
	for _, x := range list {
		if why := d.empty(x.lba, int(x.n)); ended(why) {
			return why
		}
	}
	return api.Sense{}
}

// framed: the parameters have just as many bytes as their head says, and whole descriptors.
func framed(p []byte) bool {
	if len(p) < headSize {
		return false
	}
	follow, _ := be.Get(p, 0, 2)
	size, _ := be.Get(p, 2, 2)
	return follow == uint64(len(p)-2) && size == uint64(len(p)-headSize) && size%partSize == 0
}

// parts tells what the descriptors name, in order.
func (d *Dev) parts(p []byte) ([]part, api.Sense) {
	var list []part
	total := uint64(0)
	for at := headSize; at < len(p); at += partSize {
		lba, _ := be.Get(p, at, countAt)
		n, _ := be.Get(p, at+countAt, countSize)
		if !d.has(lba, n) {
			return nil, numbered(api.IllegalReq, api.OutOfRange, lba)
		}
		total += n
		if total > api.MaxBurst {
			return nil, inParameters(at + countAt)
		}
		list = append(list, part{lba, n})
	}
	return list, api.Sense{}
}
