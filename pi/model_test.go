package pi

import (
	"bytes"
	"encoding/binary"
	"encoding/hex"
	"math/big"
	"math/rand"
	"slices"
	"strings"

	"pallet/api"
)

// mustHex tells the bytes of a text in base 16; blanks are for the eye.
func mustHex(text string) []byte {
	p, err := hex.DecodeString(strings.ReplaceAll(text, " ", ""))
	if err != nil {
		panic(err)
	}
	return p
}

// guardOf is what remains of a division of polynomials: the guard, told another way.
func guardOf(data [16]byte) uint16 {
	v := new(big.Int).SetBytes(append(bytes.Clone(data[:]), 0, 0))
	by := big.NewInt(0x18bb7)
	for v.BitLen() > 16 {
		v.Xor(v, new(big.Int).Lsh(by, uint(v.BitLen()-17)))
	}
	return uint16(v.Uint64())
}

// modelTuple is Make, told anew.
func modelTuple(kind byte, lba uint64, data [16]byte, app uint16) api.Tuple {
	ref := uint32(0)
	switch kind {
	case 1, 2:
		ref = uint32(lba % (1 << 32))
	}
	return api.Tuple{Guard: guardOf(data), App: app, Ref: ref}
}

// knownProts tells for each type what its commands may say; of what is no type nothing.
func knownProts(kind byte) string {
	switch kind {
	case 0:
		return "\x00"
	case 1, 2, 3:
		return "\x00\x01\x02\x03\x04"
	}
	return ""
}

// modelCheck says the chapter's words once more, fault by fault; right: the guard is that of the data.
func modelCheck(kind, prot byte, lba uint64, t api.Tuple, right bool) uint16 {
	// What each prot from 0 on looks at: the guard, the number of the block.
	looks := [...][2]bool{{true, true}, {true, true}, {false, true}, {false, false}, {true, false}}
	if int(prot) >= len(looks) || !slices.Contains([]byte{1, 2, 3}, kind) {
		return 0
	}
	if kind == 3 {
		if t.App == 65535 && t.Ref == 4294967295 {
			return 0
		}
	} else if t.App == 65535 {
		return 0
	}
	if looks[prot][0] && !right {
		return 0x1001
	}
	if looks[prot][1] && kind != 3 && uint64(t.Ref) != lba%(1<<32) {
		return 0x1003
	}
	return 0
}

// modelPack is Pack, by the library's ways.
func modelPack(list []api.Block, with bool) []byte {
	var out bytes.Buffer
	for _, b := range list {
		out.Write(b.Data[:])
		if with {
			binary.Write(&out, binary.BigEndian, b.Tuple)
		}
	}
	return out.Bytes()
}

// lbas has blocks' numbers at every edge.
func lbas() []uint64 {
	return []uint64{0, 1, 5, 0xff, 0x100, 0xffff, 0x10000, 0x7fffffff, 0x80000000, 0xfffffffe, 0xffffffff,
		1 << 32, 1<<32 + 5, 0x1ffffffff, 0x123456789abcdef0, 1 << 63, 1<<64 - 1}
}

// apps has application tags at every edge.
func apps() []uint16 { return []uint16{0, 1, 7, 0xff, 0x100, 0x1234, 0x7fff, 0xff00, 0xfffe, 0xffff} }

// datas has a block's data of several looks.
func datas() [][16]byte {
	var zero, ones, up, first, last [16]byte
	for i := range 16 {
		ones[i], up[i] = 0xff, byte(i+1)
	}
	first[0], last[15] = 1, 1
	return [][16]byte{zero, ones, up, first, last}
}

func anyBlock(r *rand.Rand) api.Block {
	b := api.Block{Tuple: api.Tuple{Guard: uint16(r.Uint32()), App: uint16(r.Uint32()), Ref: r.Uint32()}}
	r.Read(b.Data[:])
	return b
}

func anyBlocks(r *rand.Rand, n int) []api.Block {
	list := make([]api.Block, n)
	for i := range list {
		list[i] = anyBlock(r)
	}
	return list
}
