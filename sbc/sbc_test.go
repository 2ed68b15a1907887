package sbc

import (
	"bytes"
	"encoding/hex"
	"math"
	"math/rand"
	"slices"
	"strings"
	"testing"

	"pallet/api"
	"pallet/store"
	"pallet/world"
)

// mustHex tells the bytes of a text in base 16; blanks are for the eye.
func mustHex(text string) []byte {
	p, err := hex.DecodeString(strings.ReplaceAll(text, " ", ""))
	if err != nil {
		panic(err)
	}
	return p
}

// fill tells n bytes.
func fill(b byte, n int) []byte { return bytes.Repeat([]byte{b}, n) }

// filled tells a block's data, all of them one byte.
func filled(b byte) [16]byte { return [16]byte(fill(b, 16)) }

// mades tells a block for each byte, from lba on, as it is kept when it came without a tuple.
func mades(kind byte, lba uint64, data ...byte) []api.Block {
	var list []api.Block
	for i, b := range data {
		list = append(list, made(kind, lba+uint64(i), filled(b)))
	}
	return list
}

// The ends of commands, as the chapter writes them.

func plainEnd(key byte, code uint16) api.Result {
	return api.Result{Status: 2, Sense: api.Sense{Key: key, Code: code}}
}

func endAt(key byte, code uint16, n uint64) api.Result {
	return api.Result{Status: 2, Sense: api.Sense{Key: key, Code: code, Info: n, HasInfo: true}}
}

func noUnit() api.Result { return plainEnd(5, 0x2500) }

func wrongProt() api.Result {
	return api.Result{Status: 2, Sense: api.Sense{Key: 5, Code: 0x2400, Field: 1, Bit: 7, HasField: true, InCmd: true}}
}

func noSuchOp() api.Result {
	return api.Result{Status: 2, Sense: api.Sense{Key: 5, Code: 0x2000, Bit: 7, HasField: true, InCmd: true}}
}

func tooLong() api.Result { return plainEnd(5, 0x1a00) }

func good(data []byte) api.Result { return api.Result{Data: data} }

func (b both) want(t *testing.T, c api.Cmd, p []byte, wanted api.Result) {
	t.Helper()
	if got := b.do(t, c, p); !alike(got, wanted) {
		t.Fatalf("type %d: Do(%+v, %x) = %+v; want %+v", b.d.Prot, c, p, got, wanted)
	}
}

// wantBlocks holds blocks from lba on against what is kept.
func (b both) wantBlocks(t *testing.T, lba int, wanted ...api.Block) {
	t.Helper()
	b.same(t, false)
	if list, _, e := b.d.Store.Read(lba, len(wanted)); e != api.OK || !slices.Equal(list, wanted) {
		t.Fatalf("type %d: from %d on stands %x, %d; want %x", b.d.Prot, lba, list, e, wanted)
	}
	b.plan(nil, -1)
}

// onBlocks has the kinds that do something.
func onBlocks() []api.Kind {
	return []api.Kind{api.ReadCapacity, api.Read, api.Write, api.WriteVerify, api.Verify, api.SyncCache, api.WriteSame, api.Unmap, api.CompareWrite}
}

// ranged: the kind's LBA and Blocks are looked at.
func ranged(k api.Kind) bool { return k != api.Unmap && k != api.ReadCapacity }

// The chapter's example.

func TestExample(t *testing.T) {
	b := newBoth(t, 0, 4, true)
	b.want(t, api.Cmd{Kind: api.Write, LBA: 1, Blocks: 1}, fill(0xaa, 16), good(nil))
	b.want(t, api.Cmd{Kind: api.Read, Blocks: 2}, nil, good(append(fill(0, 16), fill(0xaa, 16)...)))
	b.want(t, api.Cmd{Kind: api.Read, LBA: 4, Blocks: 1}, nil, endAt(api.IllegalReq, api.OutOfRange, 4))
	p := fill(0xaa, 32)
	p[2] = 0xab
	b.want(t, api.Cmd{Kind: api.CompareWrite, LBA: 1, Blocks: 1}, p, endAt(api.Miscompare, api.Miscompared, 2))
}

// What ends a command of any kind.

func TestNoDevice(t *testing.T) {
	var none *Dev
	for _, d := range []*Dev{none, {}, {Prot: 1}, {Prot: 9}} {
		for kind := range 256 {
			for _, c := range []api.Cmd{{}, {LBA: 5, Blocks: math.MaxUint64}, {Prot: 7}, {Alloc: 9, Long: true}} {
				c.Kind = api.Kind(kind)
				for _, p := range [][]byte{nil, {1}, fill(1, 16)} {
					if got := d.Do(c, p); !alike(got, noUnit()) {
						t.Fatalf("Do(%+v, %x) of no device = %+v", c, p, got)
					}
				}
			}
		}
	}
}

func TestWaysOfProtection(t *testing.T) {
	for _, kind := range []byte{0, 1, 2, 3, 4, 5, 128, 255} {
		b := newBoth(t, kind, 4, true)
		for _, k := range append(onBlocks(), api.NoCmd, api.Inquiry, api.Copy, 19, 255) {
			for _, prot := range []byte{0, 1, 2, 3, 4, 5, 6, 7, 8, 255} {
				known := kind <= 3 && (prot == 0 || kind != 0 && prot <= 4)
				for _, lba := range []uint64{0, 5, math.MaxUint64} {
					// What came is of a wrong length, too: that is told later.
					got := b.do(t, api.Cmd{Kind: k, LBA: lba, Prot: prot}, []byte{1})
					if alike(got, wrongProt()) == known {
						t.Fatalf("type %d, kind %d, prot %d: %+v", kind, k, prot, got)
					}
				}
			}
		}
		if kind > 3 && b.w.Ops() > 0 {
			t.Errorf("type %d: %d calls", kind, b.w.Ops())
		}
	}
}

func TestBlocksThatThereAreNot(t *testing.T) {
	b := newBoth(t, 0, 4, true)
	for _, x := range []struct{ lba, n uint64 }{
		{0, 5}, {3, 2}, {4, 1}, {5, 0}, {0, math.MaxUint64}, {4, math.MaxUint64}, {math.MaxUint64, 0},
		{math.MaxUint64, 1}, {math.MaxUint64, 2}, {math.MaxUint64, math.MaxUint64}, {1 << 63, 1 << 63},
		{1 << 32, 1}, {0, 1 << 32}, {1 << 32, 0}, {math.MaxInt64, 2}, {math.MaxUint64 - 3, 4},
	} {
		for kind := range 256 {
			k := api.Kind(kind)
			if !ranged(k) {
				continue
			}
			for _, p := range [][]byte{nil, {1}, fill(1, 16), fill(1, 16*5)} {
				b.want(t, api.Cmd{Kind: k, LBA: x.lba, Blocks: x.n, Bytes: true}, p, endAt(5, 0x2100, x.lba))
			}
		}
		b.want(t, api.Cmd{Kind: api.ReadCapacity, LBA: x.lba, Blocks: x.n}, nil, good(mustHex("00000003 00000010")))
		b.want(t, api.Cmd{Kind: api.Unmap, LBA: x.lba, Blocks: x.n}, nil, good(nil))
	}
	if b.w.Ops() != 0 {
		t.Errorf("%d calls", b.w.Ops())
	}
}

func TestEdgesOfTheBlocks(t *testing.T) {
	for _, x := range []struct{ lba, n uint64 }{{0, 0}, {0, 4}, {3, 1}, {4, 0}, {2, 2}} {
		b := newBoth(t, 0, 4, true)
		p := fill(7, int(x.n)*16)
		b.want(t, api.Cmd{Kind: api.Write, LBA: x.lba, Blocks: x.n}, p, good(nil))
		b.want(t, api.Cmd{Kind: api.Read, LBA: x.lba, Blocks: x.n}, nil, good(p))
		b.want(t, api.Cmd{Kind: api.Verify, LBA: x.lba, Blocks: x.n, Bytes: true}, p, good(nil))
		b.want(t, api.Cmd{Kind: api.SyncCache, LBA: x.lba, Blocks: x.n}, nil, good(nil))
		b.want(t, api.Cmd{Kind: api.WriteVerify, LBA: x.lba, Blocks: x.n}, p, good(nil))
		b.want(t, api.Cmd{Kind: api.CompareWrite, LBA: x.lba, Blocks: x.n}, append(p, p...), good(nil))
		b.want(t, api.Cmd{Kind: api.WriteSame, LBA: x.lba, Blocks: x.n}, fill(8, 16), good(nil))
		b.same(t, false)
	}
}

func TestKindsThatAreNone(t *testing.T) {
	for kind := range byte(4) {
		b := newBoth(t, kind, 4, true)
		for k := range 256 {
			if slices.Contains(onBlocks(), api.Kind(k)) {
				continue
			}
			for _, p := range [][]byte{nil, {1}, fill(1, 16)} {
				b.want(t, api.Cmd{Kind: api.Kind(k), LBA: 3, Blocks: 1, Alloc: 5, FUA: true}, p, noSuchOp())
			}
		}
		b.wantBlocks(t, 0, hollow, hollow, hollow, hollow)
	}
}

// Every length of what comes, for all that needs some.

func TestLengths(t *testing.T) {
	for _, prot := range []byte{0, 1, 3} {
		for n := range uint64(4) {
			for _, x := range []struct {
				c     api.Cmd
				count int
			}{
				{api.Cmd{Kind: api.Write}, int(n)},
				{api.Cmd{Kind: api.WriteVerify}, int(n)},
				{api.Cmd{Kind: api.Verify, Bytes: true}, int(n)},
				{api.Cmd{Kind: api.WriteSame}, 1},
				{api.Cmd{Kind: api.WriteSame, Unmap: true}, 1},
				{api.Cmd{Kind: api.CompareWrite}, 2 * int(n)},
			} {
				b := newBoth(t, 1, 4, true)
				x.c.Prot, x.c.Blocks = prot, n
				for length := range 200 {
					right := length == x.count*sizeOf(prot != 0)
					p := make([]byte, length)
					if got := b.do(t, x.c, p); alike(got, tooLong()) == right {
						t.Fatalf("Do(%+v, %d bytes) = %+v", x.c, length, got)
					}
					if !right && b.w.Ops() != 0 {
						t.Fatalf("Do(%+v, %d bytes): %d calls", x.c, length, b.w.Ops())
					}
					b.same(t, false)
				}
			}
		}
	}
}

// Read, Verify and SyncCache don't look at what comes with them, if it isn't wanted.
func TestWhatNobodyWants(t *testing.T) {
	for _, p := range [][]byte{nil, {1}, fill(1, 16), fill(1, 17)} {
		b := newBoth(t, 0, 4, true)
		b.want(t, api.Cmd{Kind: api.Read, LBA: 1, Blocks: 1}, p, good(fill(0, 16)))
		b.want(t, api.Cmd{Kind: api.Verify, LBA: 1, Blocks: 1}, p, good(nil))
		b.want(t, api.Cmd{Kind: api.SyncCache, LBA: 1, Blocks: 1}, p, good(nil))
		b.want(t, api.Cmd{Kind: api.ReadCapacity, LBA: 1, Blocks: 1}, p, good(mustHex("00000003 00000010")))
		b.same(t, false)
	}
}

// Read.

func TestRead(t *testing.T) {
	list := mades(1, 0, 1, 2, 3, 4)
	list[1].Tuple.App = 0x1234
	b := newBoth(t, 1, 4, true)
	b.lay(t, 0, list...)
	b.want(t, api.Cmd{Kind: api.Read, LBA: 1, Blocks: 2}, nil, good(append(fill(2, 16), fill(3, 16)...)))
	for prot := byte(1); prot < 5; prot++ {
		b.want(t, api.Cmd{Kind: api.Read, LBA: 1, Blocks: 2, Prot: prot}, nil, good(wire(list[1:3], true)))
	}
	b.want(t, api.Cmd{Kind: api.Read, LBA: 1, Blocks: 2, FUA: true, Alloc: 3, Unmap: true, Long: true}, nil, good(append(fill(2, 16), fill(3, 16)...)))
	b.want(t, api.Cmd{Kind: api.Read, LBA: 4, Prot: 1}, nil, good(nil))
}

func TestReadOfEmptyBlocks(t *testing.T) {
	for kind := byte(1); kind < 4; kind++ {
		b := newBoth(t, kind, 2, false)
		for prot := byte(1); prot < 5; prot++ {
			b.want(t, api.Cmd{Kind: api.Read, Blocks: 2, Prot: prot}, nil,
				good(mustHex(strings.Repeat(strings.Repeat("00", 16)+"ffff ffff ffffffff", 2))))
		}
		b.want(t, api.Cmd{Kind: api.Read, Blocks: 2}, nil, good(make([]byte, 32)))
	}
}

// More blocks than one command of the wire can tell.
func TestManyBlocks(t *testing.T) {
	b := newBoth(t, 2, api.MaxBlocks, true)
	p := fill(3, api.MaxBlocks*16)
	p[len(p)-1] = 4
	b.want(t, api.Cmd{Kind: api.Write, Blocks: api.MaxBlocks}, p, good(nil))
	b.want(t, api.Cmd{Kind: api.Read, Blocks: api.MaxBlocks}, nil, good(p))
	p[len(p)-1] = 5
	b.want(t, api.Cmd{Kind: api.Verify, Blocks: api.MaxBlocks, Bytes: true}, p, endAt(0xe, 0x1d00, api.MaxBlocks*16-1))
	b.want(t, api.Cmd{Kind: api.Read, Blocks: api.MaxBlocks + 1}, nil, endAt(5, 0x2100, 0))
	b.want(t, api.Cmd{Kind: api.WriteSame}, fill(9, 16), good(nil))
	b.wantBlocks(t, api.MaxBlocks-1, made(2, api.MaxBlocks-1, filled(9)))
	b.want(t, api.Cmd{Kind: api.ReadCapacity}, nil, good(mustHex("00000fff 00000010")))
	b.same(t, false)
}

// Tuples that are wrong: each fault, of each type, by each way of looking.

type wrongTuple struct {
	change func(*api.Tuple)
	// The code for each prot of the types 1 and 2, and of the type 3.
	codes, codes3 [5]uint16
}

func wrongTuples() []wrongTuple {
	const g, r = 0x1001, 0x1003
	return []wrongTuple{
		{func(x *api.Tuple) { x.Guard ^= 1 }, [5]uint16{g, g, 0, 0, g}, [5]uint16{g, g, 0, 0, g}},
		{func(x *api.Tuple) { x.Ref ^= 1 }, [5]uint16{r, r, r, 0, 0}, [5]uint16{}},
		{func(x *api.Tuple) { x.Ref ^= 1 << 31 }, [5]uint16{r, r, r, 0, 0}, [5]uint16{}},
		{func(x *api.Tuple) { x.Guard ^= 0x8000; x.Ref++ }, [5]uint16{g, g, r, 0, g}, [5]uint16{g, g, 0, 0, g}},
		{func(x *api.Tuple) { x.App ^= 0x8001 }, [5]uint16{}, [5]uint16{}},
		{func(x *api.Tuple) { x.Guard ^= 1; x.App = 0xffff }, [5]uint16{}, [5]uint16{g, g, 0, 0, g}},
		{func(x *api.Tuple) { x.Guard ^= 1; x.App = 0xffff; x.Ref = 0xffffffff }, [5]uint16{}, [5]uint16{}},
		{func(x *api.Tuple) { x.Guard ^= 1; x.Ref = 0xffffffff }, [5]uint16{g, g, r, 0, g}, [5]uint16{g, g, 0, 0, g}},
	}
}

// code tells the code of a wrong tuple.
func (x wrongTuple) code(kind, prot byte) uint16 {
	switch kind {
	case 0:
		return 0
	case 3:
		return x.codes3[prot]
	}
	return x.codes[prot]
}

func TestWrongTuplesThatAreRead(t *testing.T) {
	for kind := range byte(4) {
		for _, x := range wrongTuples() {
			for at := range 3 {
				list := mades(kind, 1, 5, 6, 7)
				x.change(&list[at].Tuple)
				b := newBoth(t, kind, 5, true)
				b.lay(t, 1, list...)
				for prot := range byte(5) {
					if kind == 0 && prot > 0 {
						continue
					}
					code := x.code(kind, prot)
					data := wire(list, prot != 0)
					wanted := func(r api.Result) api.Result {
						if code != 0 {
							return endAt(0xb, code, uint64(1+at))
						}
						return r
					}
					c := api.Cmd{LBA: 1, Blocks: 3, Prot: prot}
					c.Kind = api.Read
					b.want(t, c, nil, wanted(good(data)))
					c.Kind = api.Verify
					b.want(t, c, nil, wanted(good(nil)))
					c.Bytes = true
					b.want(t, c, data, wanted(good(nil)))
					c.Kind = api.CompareWrite
					next := mades(kind, 1, 5, 6, 7)
					b.want(t, c, append(data, wire(next, prot != 0)...), wanted(good(nil)))
					b.same(t, false)
					b.lay(t, 1, list...)
				}
			}
		}
	}
}

func TestWrongTuplesThatCome(t *testing.T) {
	for kind := byte(1); kind < 4; kind++ {
		for _, x := range wrongTuples() {
			for at := range 3 {
				for prot := byte(1); prot < 5; prot++ {
					list := mades(kind, 1, 5, 6, 7)
					x.change(&list[at].Tuple)
					wanted := good(nil)
					after := list
					if code := x.code(kind, prot); code != 0 {
						wanted = endAt(0xb, code, uint64(1+at))
						after = []api.Block{hollow, hollow, hollow}
					}
					for _, k := range []api.Kind{api.Write, api.WriteVerify, api.CompareWrite} {
						b := newBoth(t, kind, 5, true)
						p := wire(list, true)
						if k == api.CompareWrite {
							p = append(wire([]api.Block{{}, {}, {}}, true), p...)
						}
						b.want(t, api.Cmd{Kind: k, LBA: 1, Blocks: 3, Prot: prot}, p, wanted)
						b.wantBlocks(t, 0, append(append([]api.Block{hollow}, after...), hollow)...)
					}
				}
			}
		}
	}
}

func TestWrongTuplesThatComeOnce(t *testing.T) {
	for kind := byte(1); kind < 4; kind++ {
		for _, x := range wrongTuples() {
			for prot := byte(1); prot < 5; prot++ {
				for _, unmap := range []bool{false, true} {
					one := made(kind, 1, filled(8))
					x.change(&one.Tuple)
					wanted := good(nil)
					after := []api.Block{hollow, one, one, hollow}
					if kind != 3 {
						after[1].Tuple.Ref, after[2].Tuple.Ref = 1, 2
					}
					if code := x.code(kind, prot); code != 0 {
						wanted = endAt(0xb, code, 1)
						after = []api.Block{hollow, hollow, hollow, hollow}
					}
					b := newBoth(t, kind, 4, true)
					b.want(t, api.Cmd{Kind: api.WriteSame, LBA: 1, Blocks: 2, Prot: prot, Unmap: unmap}, wire([]api.Block{one}, true), wanted)
					b.wantBlocks(t, 0, after...)
				}
			}
		}
	}
}

// The first of several is told.
func TestTheFirstWrongTuple(t *testing.T) {
	list := mades(1, 0, 1, 2, 3, 4)
	list[1].Tuple.Ref = 9
	list[2].Tuple.Guard++
	b := newBoth(t, 1, 4, true)
	b.want(t, api.Cmd{Kind: api.Write, Blocks: 4, Prot: 1}, wire(list, true), endAt(0xb, 0x1003, 1))
	b.want(t, api.Cmd{Kind: api.Write, Blocks: 4, Prot: 4}, wire(list, true), endAt(0xb, 0x1001, 2))
	b.want(t, api.Cmd{Kind: api.Write, Blocks: 4, Prot: 3}, wire(list, true), good(nil))
	b.want(t, api.Cmd{Kind: api.Read, Blocks: 4}, nil, endAt(0xb, 0x1003, 1))
	b.want(t, api.Cmd{Kind: api.Read, LBA: 2, Blocks: 2}, nil, endAt(0xb, 0x1001, 2))
}

// Write and WriteVerify.

func TestWriteMakesTuples(t *testing.T) {
	for kind := range byte(4) {
		for _, k := range []api.Kind{api.Write, api.WriteVerify} {
			b := newBoth(t, kind, 5, true)
			b.want(t, api.Cmd{Kind: k, LBA: 2, Blocks: 2}, append(fill(6, 16), fill(7, 16)...), good(nil))
			b.wantBlocks(t, 0, hollow, hollow, made(kind, 2, filled(6)), made(kind, 3, filled(7)), hollow)
		}
	}
	one := newBoth(t, 1, 5, true)
	one.want(t, api.Cmd{Kind: api.Write, LBA: 4, Blocks: 1}, append(make([]byte, 15), 1), good(nil))
	one.wantBlocks(t, 4, api.Block{Data: [16]byte{15: 1}, Tuple: api.Tuple{Guard: 0x8bb7, Ref: 4}})
}

// What is durable, by how it was written: with FUA, without a cache, by WriteVerify, ahead of SyncCache.
func TestWhatIsDurable(t *testing.T) {
	p := fill(6, 16)
	for _, x := range []struct {
		c            api.Cmd
		p            []byte
		cache, there bool
		calls        int
	}{
		{api.Cmd{Kind: api.Write}, p, true, false, 1},
		{api.Cmd{Kind: api.Write, FUA: true}, p, true, true, 2},
		{api.Cmd{Kind: api.Write}, p, false, true, 2},
		{api.Cmd{Kind: api.Write, FUA: true}, p, false, true, 2},
		{api.Cmd{Kind: api.WriteVerify}, p, true, true, 2},
		{api.Cmd{Kind: api.WriteVerify, FUA: true}, p, true, true, 2},
		{api.Cmd{Kind: api.WriteVerify}, p, false, true, 2},
		{api.Cmd{Kind: api.WriteSame}, p, true, false, 1},
		{api.Cmd{Kind: api.WriteSame, FUA: true}, p, true, false, 1},
		{api.Cmd{Kind: api.WriteSame}, p, false, true, 2},
		{api.Cmd{Kind: api.CompareWrite}, append(fill(0, 16), p...), true, false, 2},
		{api.Cmd{Kind: api.CompareWrite, FUA: true}, append(fill(0, 16), p...), true, true, 3},
		{api.Cmd{Kind: api.CompareWrite}, append(fill(0, 16), p...), false, true, 3},
	} {
		for _, synced := range []bool{false, true} {
			b := newBoth(t, 1, 3, x.cache)
			x.c.LBA, x.c.Blocks = 1, 1
			b.want(t, x.c, x.p, good(nil))
			if b.w.Ops() != x.calls {
				t.Errorf("%+v: %d calls; want %d", x.c, b.w.Ops(), x.calls)
			}
			if synced {
				b.want(t, api.Cmd{Kind: api.SyncCache}, nil, good(nil))
			}
			b.same(t, true)
			after := hollow
			if x.there || synced {
				after = made(1, 1, filled(6))
			}
			b.wantBlocks(t, 0, hollow, after, hollow)
		}
	}
}

// Nothing that is written in vain is made durable, either.
func TestNoBlocksAreNoCalls(t *testing.T) {
	b := newBoth(t, 1, 3, false)
	for _, k := range []api.Kind{api.Read, api.Write, api.WriteVerify, api.Verify, api.CompareWrite} {
		b.want(t, api.Cmd{Kind: k, LBA: 2, FUA: true, Bytes: true}, nil, good(nil))
	}
	b.want(t, api.Cmd{Kind: api.WriteSame, LBA: 3}, fill(1, 16), good(nil))
	b.want(t, api.Cmd{Kind: api.WriteSame, LBA: 3, Unmap: true}, fill(0, 16), good(nil))
	b.want(t, api.Cmd{Kind: api.Unmap}, unmapList(0, descriptor{LBA: 1}, descriptor{LBA: 3}), good(nil))
	b.want(t, api.Cmd{Kind: api.Unmap}, unmapList(0), good(nil))
	if b.w.Ops() != 0 {
		t.Errorf("%d calls", b.w.Ops())
	}
}

// Verify.

func TestVerify(t *testing.T) {
	for _, prot := range []byte{0, 1, 2, 3, 4} {
		list := mades(1, 0, 1, 2, 3, 4)
		b := newBoth(t, 1, 4, true)
		b.lay(t, 0, list...)
		c := api.Cmd{Kind: api.Verify, LBA: 1, Blocks: 3, Prot: prot, Bytes: true}
		size := sizeOf(prot != 0)
		p := wire(list[1:], prot != 0)
		b.want(t, c, p, good(nil))
		for at := range p {
			p[at] ^= 0x40
			wanted := good(nil)
			// A tuple that came isn't looked at; only data count.
			if at%size < 16 {
				wanted = endAt(0xe, 0x1d00, uint64(at/size*16+at%size))
			}
			b.want(t, c, p, wanted)
			c.Bytes = false
			b.want(t, c, p, good(nil))
			c.Bytes = true
			p[at] ^= 0x40
		}
		p[20], p[3] = 77, 77
		b.want(t, c, p, endAt(0xe, 0x1d00, 3))
		b.wantBlocks(t, 0, list...)
	}
}

// WriteSame.

func TestWriteSame(t *testing.T) {
	data := [16]byte{3: 9}
	for kind := range byte(4) {
		for _, x := range []struct {
			lba, n   uint64
			from, to int
		}{{0, 0, 0, 5}, {3, 0, 3, 5}, {4, 0, 4, 5}, {5, 0, 5, 5}, {0, 5, 0, 5}, {1, 1, 1, 2}, {1, 3, 1, 4}} {
			for _, unmap := range []bool{false, true} {
				b := newBoth(t, kind, 5, true)
				old := mades(kind, 0, 1, 2, 3, 4, 5)
				b.lay(t, 0, old...)
				b.want(t, api.Cmd{Kind: api.WriteSame, LBA: x.lba, Blocks: x.n, Unmap: unmap}, data[:], good(nil))
				for lba := x.from; lba < x.to; lba++ {
					old[lba] = made(kind, uint64(lba), data)
				}
				b.wantBlocks(t, 0, old...)
				b.want(t, api.Cmd{Kind: api.WriteSame, LBA: x.lba, Blocks: x.n, Unmap: unmap}, make([]byte, 16), good(nil))
				for lba := x.from; lba < x.to; lba++ {
					old[lba] = hollow
					if !unmap {
						old[lba] = made(kind, uint64(lba), [16]byte{})
					}
				}
				b.wantBlocks(t, 0, old...)
			}
		}
	}
}

// With tuples the block is written as it came, but for Ref with the types 1 and 2.
func TestWriteSameWithTuples(t *testing.T) {
	for kind := byte(1); kind < 4; kind++ {
		for prot := byte(1); prot < 5; prot++ {
			one := made(kind, 1, filled(9))
			one.Tuple.App = 0x1234
			if kind == 3 {
				one.Tuple.Ref = 0x55667788
			}
			b := newBoth(t, kind, 4, true)
			b.want(t, api.Cmd{Kind: api.WriteSame, LBA: 1, Blocks: 3, Prot: prot, Unmap: true}, wire([]api.Block{one}, true), good(nil))
			after := []api.Block{hollow, one, one, one}
			if kind != 3 {
				after[2].Tuple.Ref, after[3].Tuple.Ref = 2, 3
			}
			b.wantBlocks(t, 0, after...)
		}
	}
}

// Each byte of the data keeps a block from being unmapped; its tuple doesn't.
func TestWhatIsUnmappedByWriteSame(t *testing.T) {
	for kind := byte(1); kind < 4; kind++ {
		for at := range 16 {
			var data [16]byte
			data[at] = 1
			b := newBoth(t, kind, 2, true)
			b.want(t, api.Cmd{Kind: api.WriteSame, Unmap: true}, data[:], good(nil))
			b.wantBlocks(t, 0, made(kind, 0, data), made(kind, 1, data))
		}
		b := newBoth(t, kind, 3, true)
		b.lay(t, 0, mades(kind, 0, 1, 2, 3)...)
		zero := api.Block{Tuple: api.Tuple{Guard: 7, App: 8, Ref: 9}}
		b.want(t, api.Cmd{Kind: api.WriteSame, LBA: 1, Unmap: true, Prot: 3}, wire([]api.Block{zero}, true), good(nil))
		b.wantBlocks(t, 0, made(kind, 0, filled(1)), hollow, hollow)
	}
}

// Unmap.

func TestUnmap(t *testing.T) {
	for kind := range byte(4) {
		b := newBoth(t, kind, 6, true)
		old := mades(kind, 0, 1, 2, 3, 4, 5, 6)
		b.lay(t, 0, old...)
		p := unmapList(0xdeadbeef, descriptor{4, 2, 0x12345678}, descriptor{1, 1, 0}, descriptor{6, 0, 0}, descriptor{1, 2, 0})
		b.want(t, api.Cmd{Kind: api.Unmap, LBA: 99, Blocks: 99, Alloc: 3}, p, good(nil))
		b.wantBlocks(t, 0, old[0], hollow, hollow, old[3], hollow, hollow)
		b.want(t, api.Cmd{Kind: api.Unmap}, nil, good(nil))
		b.want(t, api.Cmd{Kind: api.Unmap}, []byte{}, good(nil))
		b.want(t, api.Cmd{Kind: api.Unmap}, mustHex("0006 0000 00000000"), good(nil))
		b.want(t, api.Cmd{Kind: api.Unmap}, mustHex("0016 0010 00000000 0000000000000003 00000001 00000000"), good(nil))
		b.wantBlocks(t, 0, old[0], hollow, hollow, hollow, hollow, hollow)
	}
}

func TestUnmapIsDurableWithoutACache(t *testing.T) {
	for _, cache := range []bool{false, true} {
		b := newBoth(t, 1, 3, cache)
		old := mades(1, 0, 1, 2, 3)
		b.lay(t, 0, old...)
		b.want(t, api.Cmd{Kind: api.Unmap}, unmapList(0, descriptor{LBA: 1, Count: 2}), good(nil))
		b.same(t, true)
		if !cache {
			old[1], old[2] = hollow, hollow
		}
		b.wantBlocks(t, 0, old...)
	}
}

func TestUnmapOfWrongLength(t *testing.T) {
	b := newBoth(t, 1, 6, true)
	old := mades(1, 0, 1, 2, 3, 4, 5, 6)
	b.lay(t, 0, old...)
	right := unmapList(0, descriptor{1, 1, 0}, descriptor{3, 1, 0})
	// Cut, or longer, with the head as it was, or as it should be.
	for n := 1; n < 60; n++ {
		if n == len(right) {
			continue
		}
		p := make([]byte, n)
		copy(p, right)
		b.want(t, api.Cmd{Kind: api.Unmap}, p, tooLong())
		if n >= 8 && n%16 != 8 {
			p[1], p[3] = byte(n-2), byte(n-8)
			b.want(t, api.Cmd{Kind: api.Unmap}, p, tooLong())
		}
	}
	for at := range 4 {
		for v := range 256 {
			p := bytes.Clone(right)
			p[at] = byte(v)
			if !bytes.Equal(p, right) {
				b.want(t, api.Cmd{Kind: api.Unmap}, p, tooLong())
			}
		}
	}
	b.wantBlocks(t, 0, old...)
}

// Lengths of which a head can tell no more than what remains of them.
func TestUnmapLongerThanItsHeadCanTell(t *testing.T) {
	b := newBoth(t, 1, 6, true)
	for _, n := range []int{1<<16 + 8, 1<<16 + 24} {
		p := make([]byte, n)
		p[0], p[1] = byte((n-2)>>8), byte(n-2)
		p[2], p[3] = byte((n-8)>>8), byte(n-8)
		b.want(t, api.Cmd{Kind: api.Unmap}, p, tooLong())
	}
	// The longest one: 4095 descriptors of no blocks.
	b.want(t, api.Cmd{Kind: api.Unmap}, unmapList(0, make([]descriptor, 4095)...), good(nil))
}

func TestUnmapOfBlocksThatThereAreNot(t *testing.T) {
	b := newBoth(t, 1, 6, true)
	old := mades(1, 0, 1, 2, 3, 4, 5, 6)
	b.lay(t, 0, old...)
	for _, x := range []descriptor{{6, 1, 0}, {5, 2, 0}, {7, 0, 0}, {0, 7, 0}, {0, math.MaxUint32, 0}, {math.MaxUint64, 1, 0}, {math.MaxUint64, 0, 0}, {math.MaxUint64 - 2, 3, 0}, {1 << 32, 1, 0}, {1 << 63, 1, 0}} {
		b.want(t, api.Cmd{Kind: api.Unmap}, unmapList(0, x), endAt(5, 0x2100, x.LBA))
		b.want(t, api.Cmd{Kind: api.Unmap}, unmapList(0, descriptor{1, 1, 0}, x, descriptor{9, 9, 0}), endAt(5, 0x2100, x.LBA))
	}
	if b.w.Ops() != 0 {
		t.Errorf("%d calls", b.w.Ops())
	}
	b.wantBlocks(t, 0, old...)
}

func tooMuch(field int) api.Result {
	return api.Result{Status: 2, Sense: api.Sense{Key: 5, Code: 0x2600, Field: field, Bit: -1, HasField: true}}
}

func TestUnmapOfTooMuch(t *testing.T) {
	b := newBoth(t, 1, 600, true)
	for _, x := range []struct {
		counts []uint32
		wanted api.Result
	}{
		{[]uint32{256}, good(nil)},
		{[]uint32{257}, tooMuch(16)},
		{[]uint32{600}, tooMuch(16)},
		{[]uint32{200, 56}, good(nil)},
		{[]uint32{200, 57}, tooMuch(32)},
		{[]uint32{256, 0, 0}, good(nil)},
		{[]uint32{256, 0, 1}, tooMuch(48)},
		{[]uint32{100, 100, 100, 601}, tooMuch(48)},
		{[]uint32{100, 100, 601, 100}, endAt(5, 0x2100, 0)},
		{[]uint32{300, 601}, tooMuch(16)},
		{[]uint32{256, 601}, endAt(5, 0x2100, 0)},
		{[]uint32{256, math.MaxUint32}, endAt(5, 0x2100, 0)},
	} {
		b.lay(t, 0, slices.Repeat(mades(1, 0, 1), 600)...)
		var list []descriptor
		for _, n := range x.counts {
			list = append(list, descriptor{Count: n})
		}
		b.want(t, api.Cmd{Kind: api.Unmap}, unmapList(0, list...), x.wanted)
		if x.wanted.Status != api.Good && b.w.Ops() != 0 {
			t.Errorf("%v: %d calls", x.counts, b.w.Ops())
		}
		b.same(t, false)
	}
}

// CompareWrite.

func TestCompareWrite(t *testing.T) {
	for _, prot := range []byte{0, 1, 2, 3, 4} {
		size := sizeOf(prot != 0)
		old, next := mades(1, 0, 1, 2, 3, 4), mades(1, 1, 7, 8)
		p := append(wire(old[1:3], prot != 0), wire(next, prot != 0)...)
		c := api.Cmd{Kind: api.CompareWrite, LBA: 1, Blocks: 2, Prot: prot}
		for at := range 2 * size {
			b := newBoth(t, 1, 4, true)
			b.lay(t, 0, old...)
			p[at] ^= 4
			if at%size < 16 {
				b.want(t, c, p, endAt(0xe, 0x1d00, uint64(at/size*16+at%size)))
				b.wantBlocks(t, 0, old...)
			} else {
				// A tuple of the first half isn't looked at.
				b.want(t, c, p, good(nil))
				b.wantBlocks(t, 0, old[0], next[0], next[1], old[3])
			}
			p[at] ^= 4
		}
		b := newBoth(t, 1, 4, true)
		b.lay(t, 0, old...)
		b.want(t, c, p, good(nil))
		b.wantBlocks(t, 0, old[0], next[0], next[1], old[3])
	}
}

// What came is looked at ahead of what is read, and that ahead of what is compared.
func TestOrderOfCompareWrite(t *testing.T) {
	b := newBoth(t, 1, 4, true)
	old := mades(1, 0, 1, 2, 3, 4)
	b.lay(t, 0, old...)
	next := mades(1, 1, 7, 8)
	next[1].Tuple.Guard++
	other := wire(mades(1, 1, 5, 5), true)
	c := api.Cmd{Kind: api.CompareWrite, LBA: 1, Blocks: 2, Prot: 1}
	b.plan([]int{0}, -1)
	b.want(t, c, append(other, wire(next, true)...), endAt(0xb, 0x1001, 2))
	b.want(t, c, append(other, wire(mades(1, 1, 7, 8), true)...), endAt(3, 0x1100, 1))
	b.want(t, c, append(other, wire(mades(1, 1, 7, 8), true)...), endAt(0xe, 0x1d00, 0))
	b.wantBlocks(t, 0, old...)
}

// ReadCapacity.

func TestReadCapacity(t *testing.T) {
	for kind, mark := range []string{"00", "01", "03", "05"} {
		for _, x := range []struct {
			blocks int
			last   string
		}{{1, "00000000"}, {4, "00000003"}, {256, "000000ff"}, {257, "00000100"}, {4096, "00000fff"}} {
			b := newBoth(t, byte(kind), x.blocks, true)
			for _, alloc := range []int{math.MinInt, -1, 0, 1, 7, 8, 9, math.MaxInt} {
				b.want(t, api.Cmd{Kind: api.ReadCapacity, Alloc: alloc}, nil, good(mustHex(x.last+"00000010")))
			}
			long := mustHex("00000000" + x.last + "00000010" + mark + "0080" + strings.Repeat("00", 17))
			for alloc := range 34 {
				b.want(t, api.Cmd{Kind: api.ReadCapacity, Long: true, Alloc: alloc}, nil, good(long[:min(alloc, 32)]))
			}
			for _, alloc := range []int{math.MinInt, -1} {
				b.want(t, api.Cmd{Kind: api.ReadCapacity, Long: true, Alloc: alloc}, nil, good(nil))
			}
			b.want(t, api.Cmd{Kind: api.ReadCapacity, Long: true, Alloc: math.MaxInt}, nil, good(long))
			if b.w.Ops() != 0 {
				t.Errorf("%d calls", b.w.Ops())
			}
		}
	}
}

// Files that fail, and lose their power, at each call of each command.

func TestFilesThatFail(t *testing.T) {
	for kind := range byte(4) {
		for _, cache := range []bool{false, true} {
			for _, x := range failing(kind) {
				for call := range 9 {
					for how := range 4 {
						b := newBoth(t, kind, 5, cache)
						b.lay(t, 0, mades(kind, 0, 1, 2, 3, 4, 5)...)
						if how%2 == 0 {
							b.plan([]int{call}, -1)
						} else {
							b.plan(nil, call)
						}
						b.do(t, x.c, x.p)
						b.same(t, how > 1)
					}
				}
			}
		}
	}
}

type command struct {
	c api.Cmd
	p []byte
}

// failing has a command of each kind that makes calls of the files.
func failing(kind byte) []command {
	list := []command{
		{api.Cmd{Kind: api.Read, LBA: 1, Blocks: 3}, nil},
		{api.Cmd{Kind: api.Write, LBA: 1, Blocks: 3}, fill(7, 48)},
		{api.Cmd{Kind: api.Write, LBA: 1, Blocks: 3, FUA: true}, fill(7, 48)},
		{api.Cmd{Kind: api.WriteVerify, LBA: 1, Blocks: 3}, fill(7, 48)},
		{api.Cmd{Kind: api.Verify, LBA: 1, Blocks: 3}, nil},
		{api.Cmd{Kind: api.Verify, LBA: 1, Blocks: 3, Bytes: true}, fill(2, 48)},
		{api.Cmd{Kind: api.SyncCache}, nil},
		{api.Cmd{Kind: api.WriteSame, LBA: 1, Blocks: 3}, fill(7, 16)},
		{api.Cmd{Kind: api.WriteSame, LBA: 2}, fill(7, 16)},
		{api.Cmd{Kind: api.WriteSame, LBA: 1, Blocks: 3, Unmap: true}, fill(0, 16)},
		{api.Cmd{Kind: api.WriteSame, LBA: 2, Unmap: true}, fill(0, 16)},
		{api.Cmd{Kind: api.Unmap}, unmapList(0, descriptor{LBA: 3, Count: 2}, descriptor{LBA: 0, Count: 3})},
		{api.Cmd{Kind: api.CompareWrite, LBA: 1, Blocks: 3}, append(wire(mades(0, 0, 2, 3, 4), false), fill(7, 48)...)},
		{api.Cmd{Kind: api.CompareWrite, LBA: 1, Blocks: 3, FUA: true}, append(wire(mades(0, 0, 2, 3, 4), false), fill(7, 48)...)},
	}
	if kind == 0 {
		return list
	}
	same := made(kind, 1, filled(7))
	return append(list,
		command{api.Cmd{Kind: api.Read, LBA: 1, Blocks: 3, Prot: 1}, nil},
		command{api.Cmd{Kind: api.Write, LBA: 1, Blocks: 3, Prot: 1}, wire(mades(kind, 1, 7, 8, 9), true)},
		command{api.Cmd{Kind: api.WriteSame, LBA: 1, Blocks: 3, Prot: 1}, wire([]api.Block{same}, true)})
}

func TestFilesThatFailByHand(t *testing.T) {
	for _, x := range []struct {
		c      api.Cmd
		p      []byte
		call   int
		wanted api.Result
	}{
		{api.Cmd{Kind: api.Read, LBA: 1, Blocks: 3}, nil, 0, endAt(3, 0x1100, 1)},
		{api.Cmd{Kind: api.Read, LBA: 1, Blocks: 3}, nil, 2, endAt(3, 0x1100, 3)},
		{api.Cmd{Kind: api.Verify, LBA: 1, Blocks: 3}, nil, 1, endAt(3, 0x1100, 2)},
		{api.Cmd{Kind: api.Write, LBA: 1, Blocks: 3}, fill(7, 48), 0, endAt(3, 0x0c00, 1)},
		{api.Cmd{Kind: api.Write, LBA: 1, Blocks: 3}, fill(7, 48), 2, endAt(3, 0x0c00, 3)},
		{api.Cmd{Kind: api.Write, LBA: 1, Blocks: 3}, fill(7, 48), 3, good(nil)},
		{api.Cmd{Kind: api.Write, LBA: 1, Blocks: 3, FUA: true}, fill(7, 48), 3, endAt(3, 0x0c00, 4)},
		{api.Cmd{Kind: api.WriteVerify, LBA: 1, Blocks: 3}, fill(7, 48), 3, endAt(3, 0x0c00, 4)},
		{api.Cmd{Kind: api.SyncCache, LBA: 1, Blocks: 3}, nil, 0, plainEnd(3, 0x0c00)},
		{api.Cmd{Kind: api.WriteSame, LBA: 1}, fill(7, 16), 3, endAt(3, 0x0c00, 4)},
		{api.Cmd{Kind: api.WriteSame, LBA: 1, Unmap: true}, fill(0, 16), 2, endAt(3, 0x0c00, 3)},
		{api.Cmd{Kind: api.Unmap}, unmapList(0, descriptor{3, 2, 0}, descriptor{1, 2, 0}), 1, endAt(3, 0x0c00, 4)},
		{api.Cmd{Kind: api.Unmap}, unmapList(0, descriptor{3, 2, 0}, descriptor{1, 2, 0}), 3, endAt(3, 0x0c00, 2)},
		{api.Cmd{Kind: api.CompareWrite, LBA: 1, Blocks: 1}, append(fill(2, 16), fill(7, 16)...), 0, endAt(3, 0x1100, 1)},
		{api.Cmd{Kind: api.CompareWrite, LBA: 1, Blocks: 1}, append(fill(2, 16), fill(7, 16)...), 1, endAt(3, 0x0c00, 1)},
	} {
		for _, stops := range []bool{false, true} {
			b := newBoth(t, 0, 5, true)
			b.lay(t, 0, mades(0, 0, 1, 2, 3, 4, 5)...)
			if stops {
				b.plan(nil, x.call)
			} else {
				b.plan([]int{x.call}, -1)
			}
			b.want(t, x.c, x.p, x.wanted)
			b.same(t, false)
		}
	}
}

// With the power off each command that makes a call fails at its first block.
func TestWithoutPower(t *testing.T) {
	b := newBoth(t, 0, 5, true)
	b.lay(t, 0, mades(0, 0, 1, 2, 3, 4, 5)...)
	b.plan(nil, 0)
	b.want(t, api.Cmd{Kind: api.SyncCache}, nil, plainEnd(3, 0x0c00))
	for _, x := range failing(0) {
		if r := b.do(t, x.c, x.p); r.Status != api.Check || r.Sense.Key != api.MediumError {
			t.Errorf("Do(%+v) = %+v", x.c, r)
		}
	}
	b.want(t, api.Cmd{Kind: api.Read, LBA: 5}, nil, good(nil))
	b.want(t, api.Cmd{Kind: api.ReadCapacity}, nil, good(mustHex("00000004 00000010")))
	b.want(t, api.Cmd{Kind: api.Write, LBA: 1, Blocks: 1}, fill(1, 17), tooLong())
	b.same(t, true)
}

// P5: what was told done, with FUA, without a cache, by WriteVerify or ahead of SyncCache, is there wherever the power goes off and whatever is kept of what waits.
func TestWhatWasToldIsThere(t *testing.T) {
	for how := range 4 {
		for stop := range 14 {
			for keep := range 5 {
				for _, cut := range []int{0, 1, 12, 24, 25} {
					w := world.New()
					told := writeTillOff(w, how, stop)
					w.Crash(keep, cut)
					s, _ := store.Open(w, "d", 8, true)
					d := &Dev{Store: s, Prot: 1}
					for lba, b := range told {
						if r := d.Do(api.Cmd{Kind: api.Read, LBA: lba, Blocks: 1}, nil); !alike(r, good(fill(b, 16))) {
							t.Fatalf("how %d, stop %d, keep %d, cut %d: the block %d: %+v; want %x", how, stop, keep, cut, lba, r, b)
						}
					}
				}
			}
		}
	}
}

// writeTillOff writes blocks till the power goes off, and tells those that were told durable.
func writeTillOff(w *world.World, how, stop int) map[uint64]byte {
	s, _ := store.Open(w, "d", 8, how != 1)
	d := &Dev{Store: s, Prot: 1}
	w.Plan(nil, stop)
	told := map[uint64]byte{}
	for i, lba := range []uint64{5, 0, 2} {
		c := api.Cmd{Kind: api.Write, LBA: lba, Blocks: 2, FUA: how == 0}
		if how == 2 {
			c.Kind = api.WriteVerify
		}
		if d.Do(c, fill(byte(i+1), 32)).Status != api.Good {
			break
		}
		if how == 3 && d.Do(api.Cmd{Kind: api.SyncCache}, nil).Status != api.Good {
			break
		}
		told[lba], told[lba+1] = byte(i+1), byte(i+1)
	}
	s.SetCache(true)
	d.Do(api.Cmd{Kind: api.Write, LBA: 4, Blocks: 1}, fill(77, 16))
	return told
}

// P1: of a store that is its zero value, of a copy, and of one over a world that is its zero value nothing is promised but that nothing panics.
func TestStrangeStoresDoNotPanic(t *testing.T) {
	over, _ := store.Open(&world.World{}, "d", 4, false)
	whole, _ := store.Open(world.New(), "d", 4, false)
	twin := *whole
	r := rand.New(rand.NewSource(14))
	for _, s := range []*store.Store{{}, over, &twin} {
		for kind := range byte(5) {
			d := &Dev{Store: s, Prot: kind}
			for range 2000 {
				d.Do(anyCommand(r, newModel(kind, 4, true)))
			}
			for k := range 256 {
				d.Do(api.Cmd{Kind: api.Kind(k), Long: true, Alloc: 99}, fill(0, 16))
				d.Do(api.Cmd{Kind: api.Kind(k)}, nil)
			}
		}
	}
}

// P1: any command, any bytes.
func TestAnyArguments(t *testing.T) {
	r := rand.New(rand.NewSource(15))
	for range 20000 {
		b := newBoth(t, byte(r.Intn(5)), 1+r.Intn(6), r.Intn(2) == 0)
		c := api.Cmd{
			Kind: api.Kind(r.Intn(256)), LBA: r.Uint64(), Blocks: r.Uint64() >> r.Intn(64), Alloc: int(r.Uint64()), Prot: byte(r.Intn(256)),
			Long: r.Intn(2) == 0, FUA: r.Intn(2) == 0, Unmap: r.Intn(2) == 0, Bytes: r.Intn(2) == 0,
			EVPD: r.Intn(2) == 0, Page: byte(r.Intn(256)), Control: byte(r.Intn(256)), Save: r.Intn(2) == 0, Service: byte(r.Intn(256)), Type: byte(r.Intn(256)),
		}
		if r.Intn(2) == 0 {
			c.Kind, c.LBA, c.Blocks, c.Prot = api.Kind(r.Intn(20)), uint64(r.Intn(6)), uint64(r.Intn(4)), byte(r.Intn(5))
		}
		p := make([]byte, r.Intn(60))
		r.Read(p)
		b.do(t, c, p)
	}
}

// P2: what a device answers depends on what it was told, not on other devices.
func TestDevicesStandAlone(t *testing.T) {
	w := world.New()
	s, _ := store.Open(w, "a", 4, true)
	other, _ := store.Open(w, "b", 4, true)
	a, twin, b := &Dev{Store: s}, &Dev{Store: s, Prot: 1}, &Dev{Store: other}
	a.Do(api.Cmd{Kind: api.Write, LBA: 1, Blocks: 1}, fill(5, 16))
	if r := b.Do(api.Cmd{Kind: api.Read, LBA: 1, Blocks: 1}, nil); !alike(r, good(fill(0, 16))) {
		t.Errorf("another device's block: %+v", r)
	}
	// The same store looked at by another type: what was written without one has no number of a block.
	if r := twin.Do(api.Cmd{Kind: api.Read, LBA: 1, Blocks: 1}, nil); !alike(r, endAt(0xb, 0x1003, 1)) {
		t.Errorf("the same block: %+v", r)
	}
	if r := a.Do(api.Cmd{Kind: api.Read, LBA: 1, Blocks: 1}, nil); !alike(r, good(fill(5, 16))) {
		t.Errorf("its own block: %+v", r)
	}
}

// Memory.

// spoil writes over a list of bytes and its spare room.
func spoil(p []byte) {
	p = p[:cap(p)]
	for i := range p {
		p[i] ^= 0xa5
	}
}

func TestAnswersAreNew(t *testing.T) {
	b := newBoth(t, 1, 4, true)
	b.lay(t, 0, mades(1, 0, 1, 2, 3, 4)...)
	for _, c := range []api.Cmd{
		{Kind: api.Read, Blocks: 4}, {Kind: api.Read, Blocks: 4, Prot: 1}, {Kind: api.ReadCapacity},
		{Kind: api.ReadCapacity, Long: true, Alloc: 32}, {Kind: api.ReadCapacity, Long: true, Alloc: 5},
	} {
		first, second := b.do(t, c, nil), b.do(t, c, nil)
		spoil(first.Data)
		b.want(t, c, nil, second)
		spoil(second.Data)
		spoil(b.do(t, c, nil).Data)
		b.do(t, c, nil)
	}
	b.same(t, false)
}

func TestArgumentsAreNeitherChangedNorKept(t *testing.T) {
	for kind := range byte(4) {
		for _, x := range failing(kind) {
			b := newBoth(t, kind, 5, true)
			b.lay(t, 0, mades(kind, 0, 1, 2, 3, 4, 5)...)
			room := append(bytes.Clone(x.p), fill(3, 40)...)
			ahead := bytes.Clone(room)
			b.do(t, x.c, room[:len(x.p)])
			if !bytes.Equal(room, ahead) {
				t.Errorf("Do(%+v): %x became %x", x.c, ahead, room)
			}
			spoil(room)
			b.same(t, false)
		}
	}
}
