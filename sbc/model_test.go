package sbc

import (
	"bytes"
	"encoding/binary"
	"math/big"
	"math/rand"
	"slices"
	"testing"

	"pallet/api"
	"pallet/store"
	"pallet/world"
)

// hollow is a block that nobody has written.
var hollow = api.Block{Tuple: api.Tuple{Guard: 0xffff, App: 0xffff, Ref: 0xffffffff}}

// model is the chapter told in another way: blocks as a list, each call of the files counted, and a command that ends by a panic with its sense.
type model struct {
	kind          byte
	cache         bool
	seen, durable []api.Block
	fails         []int
	stop          int
	ops           int
	off           bool
}

func newModel(kind byte, blocks int, cache bool) *model {
	empty := slices.Repeat([]api.Block{hollow}, blocks)
	return &model{kind: kind, cache: cache, seen: empty, durable: slices.Clone(empty), stop: -1}
}

// guardOf is what remains of a division of polynomials.
func guardOf(data [16]byte) uint16 {
	v := new(big.Int).SetBytes(append(bytes.Clone(data[:]), 0, 0))
	by := big.NewInt(0x18bb7)
	for v.BitLen() > 16 {
		v.Xor(v, new(big.Int).Lsh(by, uint(v.BitLen()-17)))
	}
	return uint16(v.Uint64())
}

// made is a block with these data, as it is kept at a place when it came without a tuple.
func made(kind byte, lba uint64, data [16]byte) api.Block {
	b := api.Block{Data: data, Tuple: api.Tuple{Guard: guardOf(data)}}
	if kind == 1 || kind == 2 {
		b.Tuple.Ref = uint32(lba)
	}
	return b
}

// wire tells blocks as they go over the wire.
func wire(list []api.Block, with bool) []byte {
	var out bytes.Buffer
	for _, b := range list {
		out.Write(b.Data[:])
		if with {
			binary.Write(&out, binary.BigEndian, b.Tuple)
		}
	}
	return out.Bytes()
}

func sizeOf(with bool) int {
	if with {
		return 24
	}
	return 16
}

func end(s api.Sense) { panic(s) }

func numberedEnd(key byte, code uint16, n uint64) {
	end(api.Sense{Key: key, Code: code, Info: n, HasInfo: true})
}

// call counts a call of the files; does it go well?
func (m *model) call() bool {
	if m.off {
		return false
	}
	m.ops++
	m.off = m.ops-1 == m.stop
	return !m.off && !slices.Contains(m.fails, m.ops-1)
}

func (m *model) crash() {
	m.seen = slices.Clone(m.durable)
	m.fails, m.stop, m.ops, m.off = nil, -1, 0, false
}

func (m *model) settle(first uint64, n int, fua bool) {
	if n == 0 || m.cache && !fua {
		return
	}
	if !m.call() {
		numberedEnd(3, 0x0c00, first+uint64(n))
	}
	m.durable = slices.Clone(m.seen)
}

func (m *model) write(first uint64, list []api.Block, fua bool) {
	for i, b := range list {
		if !m.call() {
			numberedEnd(3, 0x0c00, first+uint64(i))
		}
		m.seen[int(first)+i] = b
	}
	m.settle(first, len(list), fua)
}

func (m *model) unmap(first uint64, n int) {
	for i := range n {
		if !m.call() {
			numberedEnd(3, 0x0c00, first+uint64(i))
		}
		m.seen[int(first)+i] = hollow
	}
	m.settle(first, n, false)
}

// looked ends a command at the first block that its tuple says is wrong.
func (m *model) looked(c api.Cmd, list []api.Block) {
	for i, b := range list {
		lba := c.LBA + uint64(i)
		free := b.Tuple.App == 0xffff && (m.kind != 3 || b.Tuple.Ref == 0xffffffff)
		if m.kind == 0 || c.Prot == 3 || free {
			continue
		}
		if c.Prot != 2 && b.Tuple.Guard != guardOf(b.Data) {
			numberedEnd(0xb, 0x1001, lba)
		}
		if c.Prot != 4 && m.kind != 3 && b.Tuple.Ref != uint32(lba) {
			numberedEnd(0xb, 0x1003, lba)
		}
	}
}

func (m *model) read(c api.Cmd) []api.Block {
	for i := range c.Blocks {
		if !m.call() {
			numberedEnd(3, 0x1100, c.LBA+i)
		}
	}
	list := slices.Clone(m.seen[c.LBA : c.LBA+c.Blocks])
	m.looked(c, list)
	return list
}

// unpacked tells the blocks that parameters are, if they are so many.
func unpacked(c api.Cmd, p []byte, n int) []api.Block {
	if len(p) != n*sizeOf(c.Prot != 0) {
		end(api.Sense{Key: 5, Code: 0x1a00})
	}
	list := make([]api.Block, n)
	in := bytes.NewReader(p)
	for i := range list {
		in.Read(list[i].Data[:])
		if c.Prot != 0 {
			binary.Read(in, binary.BigEndian, &list[i].Tuple)
		}
	}
	return list
}

func (m *model) come(c api.Cmd, list []api.Block) []api.Block {
	if c.Prot != 0 {
		m.looked(c, list)
		return list
	}
	for i, b := range list {
		list[i] = made(m.kind, c.LBA+uint64(i), b.Data)
	}
	return list
}

// same ends a command where the data of blocks aren't the same.
func same(a, b []api.Block) {
	x, y := wire(a, false), wire(b, false)
	for i := range x {
		if x[i] != y[i] {
			numberedEnd(0xe, 0x1d00, uint64(i))
		}
	}
}

// outside: not all of the n blocks from lba on are there, reckoned with true numbers.
func (m *model) outside(lba, n uint64) bool {
	sum := new(big.Int).SetUint64(lba)
	sum.Add(sum, new(big.Int).SetUint64(n))
	return sum.Cmp(big.NewInt(int64(len(m.seen)))) > 0
}

func (m *model) do(c api.Cmd, p []byte) (r api.Result) {
	defer func() {
		if why := recover(); why != nil {
			r = api.Result{Status: 2, Sense: why.(api.Sense)}
		}
	}()
	if m.kind > 3 || m.kind == 0 && c.Prot > 0 || c.Prot > 4 {
		end(api.Sense{Key: 5, Code: 0x2400, Field: 1, Bit: 7, HasField: true, InCmd: true})
	}
	if c.Kind != api.Unmap && c.Kind != api.ReadCapacity && m.outside(c.LBA, c.Blocks) {
		numberedEnd(5, 0x2100, c.LBA)
	}
	n := int(c.Blocks)
	switch c.Kind {
	case api.Read:
		r.Data = wire(m.read(c), c.Prot != 0)
	case api.Write, api.WriteVerify:
		m.write(c.LBA, m.come(c, unpacked(c, p, n)), c.FUA || c.Kind == api.WriteVerify)
	case api.Verify:
		var wanted []api.Block
		if c.Bytes {
			wanted = unpacked(c, p, n)
		}
		if list := m.read(c); c.Bytes {
			same(list, wanted)
		}
	case api.SyncCache:
		if !m.call() {
			end(api.Sense{Key: 3, Code: 0x0c00})
		}
		m.durable = slices.Clone(m.seen)
	case api.WriteSame:
		m.writeSame(c, m.come(c, unpacked(c, p, 1))[0])
	case api.Unmap:
		m.unmapAll(p)
	case api.CompareWrite:
		list := unpacked(c, p, 2*n)
		next := m.come(c, list[n:])
		same(m.read(c), list[:n])
		m.write(c.LBA, next, c.FUA)
	case api.ReadCapacity:
		r.Data = m.capacity(c)
	default:
		end(api.Sense{Key: 5, Code: 0x2000, Bit: 7, HasField: true, InCmd: true})
	}
	return r
}

func (m *model) writeSame(c api.Cmd, b api.Block) {
	to := int(c.LBA + c.Blocks)
	if c.Blocks == 0 {
		to = len(m.seen)
	}
	if c.Unmap && bytes.Count(b.Data[:], []byte{0}) == 16 {
		m.unmap(c.LBA, to-int(c.LBA))
		return
	}
	var list []api.Block
	for lba := int(c.LBA); lba < to; lba++ {
		next := made(m.kind, uint64(lba), b.Data)
		if c.Prot != 0 {
			next.Tuple.Guard, next.Tuple.App = b.Tuple.Guard, b.Tuple.App
			if m.kind == 3 {
				next.Tuple.Ref = b.Tuple.Ref
			}
		}
		list = append(list, next)
	}
	m.write(c.LBA, list, false)
}

// descriptor is one of Unmap's, as the library reads it.
type descriptor struct {
	LBA   uint64
	Count uint32
	Rest  uint32
}

func (m *model) unmapAll(p []byte) {
	if len(p) == 0 {
		return
	}
	if len(p) < 8 || int(p[0])*256+int(p[1]) != len(p)-2 || int(p[2])*256+int(p[3]) != len(p)-8 || len(p)%16 != 8 {
		end(api.Sense{Key: 5, Code: 0x1a00})
	}
	list := make([]descriptor, len(p)/16)
	binary.Read(bytes.NewReader(p[8:]), binary.BigEndian, list)
	left := 256
	for i, x := range list {
		if m.outside(x.LBA, uint64(x.Count)) {
			numberedEnd(5, 0x2100, x.LBA)
		}
		left -= int(x.Count)
		if left < 0 {
			end(api.Sense{Key: 5, Code: 0x2600, Field: 16 * (i + 1), Bit: -1, HasField: true})
		}
	}
	for _, x := range list {
		m.unmap(x.LBA, int(x.Count))
	}
}

func (m *model) capacity(c api.Cmd) []byte {
	last := len(m.seen) - 1
	if !c.Long {
		return []byte{0, 0, byte(last >> 8), byte(last), 0, 0, 0, 16}
	}
	p := make([]byte, 32)
	p[6], p[7], p[11], p[14] = byte(last>>8), byte(last), 16, 0x80
	p[12] = "\x00\x01\x03\x05"[m.kind]
	return p[:max(0, min(32, c.Alloc))]
}

// both is a device over a world and the model of it, to be told the same.
type both struct {
	d *Dev
	w *world.World
	m *model
}

func newBoth(t *testing.T, kind byte, blocks int, cache bool) both {
	t.Helper()
	w := world.New()
	s, e := store.Open(w, "d", blocks, cache)
	if e != api.OK {
		t.Fatalf("Open = %d", e)
	}
	return both{&Dev{Store: s, Prot: kind}, w, newModel(kind, blocks, cache)}
}

// lay puts blocks from lba on into both, made durable, whatever their tuples say, and no call is counted.
func (b both) lay(t *testing.T, lba int, list ...api.Block) {
	t.Helper()
	b.plan(nil, -1)
	if _, e := b.d.Store.Write(lba, list, true); e != api.OK {
		t.Fatalf("Write = %d", e)
	}
	copy(b.m.seen[lba:], list)
	b.m.durable = slices.Clone(b.m.seen)
	b.plan(nil, -1)
}

func (b both) plan(fails []int, stop int) {
	b.w.Plan(fails, stop)
	b.m.fails, b.m.stop, b.m.ops = fails, stop, 0
}

func (b both) setCache(on bool) {
	b.d.Store.SetCache(on)
	b.m.cache = on
}

// do carries a command out in both, and tells the answer.
func (b both) do(t *testing.T, c api.Cmd, p []byte) api.Result {
	t.Helper()
	got, wanted := b.d.Do(c, p), b.m.do(c, p)
	if !alike(got, wanted) {
		t.Fatalf("type %d: Do(%+v, %x) = %+v; want %+v", b.d.Prot, c, p, got, wanted)
	}
	if b.w.Ops() != b.m.ops || b.w.Off() != b.m.off {
		t.Fatalf("type %d: Do(%+v, %x): %d calls, off %v; want %d, %v", b.d.Prot, c, p, b.w.Ops(), b.w.Off(), b.m.ops, b.m.off)
	}
	return got
}

func alike(a, b api.Result) bool {
	return a.Status == b.Status && a.Sense == b.Sense && bytes.Equal(a.Data, b.Data)
}

// same holds all blocks of both against each other, as they are seen, or behind a loss of power; no call is to fail then.
func (b both) same(t *testing.T, lost bool) {
	t.Helper()
	switch {
	case lost:
		b.crash()
	case b.m.off:
		b.w.Crash(b.w.Waits(), 0)
		b.m.durable = b.m.seen
		b.m.crash()
	}
	b.plan(nil, -1)
	list, _, e := b.d.Store.Read(0, len(b.m.seen))
	if e != api.OK {
		t.Fatalf("Read = %d", e)
	}
	for lba := range list {
		if list[lba] != b.m.seen[lba] {
			t.Fatalf("type %d, lost %v: the block %d is %x; want %x", b.d.Prot, lost, lba, list[lba], b.m.seen[lba])
		}
	}
	b.plan(nil, -1)
}

// crash puts the power on, and what isn't durable is lost.
func (b both) crash() {
	b.w.Crash(0, 0)
	b.m.crash()
}

// Random commands.

// anyData has data of few looks, so that comparisons agree now and then.
func anyData(r *rand.Rand) [16]byte {
	var data [16]byte
	switch r.Intn(4) {
	case 0:
		data[r.Intn(16)] = byte(r.Intn(3))
	case 1:
		data[15] = 1
	}
	return data
}

// anyBlock tells a block for a place, most often with the tuple that it should have there.
func anyBlock(r *rand.Rand, kind byte, lba uint64) api.Block {
	b := made(kind, lba, anyData(r))
	switch r.Intn(16) {
	case 0:
		b.Tuple.Guard ^= 1 << r.Intn(16)
	case 1:
		b.Tuple.Ref ^= 1 << r.Intn(32)
	case 2:
		b.Tuple.App = 0xffff
		b.Tuple.Guard++
	case 3:
		b.Tuple = hollow.Tuple
	case 4:
		b.Tuple.App = uint16(r.Uint32())
	}
	return b
}

func anyBlocks(r *rand.Rand, kind byte, lba uint64, n int) []api.Block {
	list := make([]api.Block, n)
	for i := range list {
		list[i] = anyBlock(r, kind, lba+uint64(i))
	}
	return list
}

// anyCommand tells a command on the blocks of a model, and what comes with it; most are right.
func anyCommand(r *rand.Rand, m *model) (api.Cmd, []byte) {
	all := len(m.seen)
	lba := r.Intn(all + 1)
	n := r.Intn(min(all-lba, 5) + 1)
	c := api.Cmd{
		Kind: api.Kind(r.Intn(20)), LBA: uint64(lba), Blocks: uint64(n), Alloc: r.Intn(40),
		FUA: r.Intn(3) == 0, Unmap: r.Intn(2) == 0, Bytes: r.Intn(2) == 0, Long: r.Intn(2) == 0,
	}
	if r.Intn(4) > 0 {
		c.Kind = api.ReadCapacity + api.Kind(r.Intn(9))
	}
	if m.kind != 0 {
		c.Prot = byte(r.Intn(5))
	}
	if r.Intn(30) == 0 {
		c.Prot = byte(r.Intn(9))
	}
	if r.Intn(30) == 0 {
		c.Blocks += uint64(r.Intn(4))
	}
	p := anyParameters(r, m, c)
	if r.Intn(20) == 0 {
		p = append(p, make([]byte, 1+r.Intn(24))...)
	} else if r.Intn(20) == 0 && len(p) > 0 {
		p = p[:r.Intn(len(p))]
	}
	return c, p
}

func anyParameters(r *rand.Rand, m *model, c api.Cmd) []byte {
	with, n := c.Prot != 0, int(c.Blocks)
	switch c.Kind {
	case api.Verify, api.CompareWrite:
		list := anyBlocks(r, m.kind, c.LBA, n)
		if r.Intn(4) > 0 && !m.outside(c.LBA, c.Blocks) {
			copy(list, m.seen[c.LBA:])
		}
		if c.Kind == api.CompareWrite {
			list = append(list, anyBlocks(r, m.kind, c.LBA, n)...)
		}
		return wire(list, with)
	case api.WriteSame:
		return wire(anyBlocks(r, m.kind, c.LBA, 1), with)
	case api.Unmap:
		var list []descriptor
		for range r.Intn(4) {
			lba := r.Intn(len(m.seen) + 1)
			list = append(list, descriptor{uint64(lba), uint32(r.Intn(len(m.seen) - lba + 1)), r.Uint32()})
			if r.Intn(20) == 0 {
				list[0].LBA++
			}
		}
		return unmapList(r.Uint32(), list...)
	}
	return wire(anyBlocks(r, m.kind, c.LBA, n), with)
}

// unmapList tells the parameters of Unmap; rest is what nobody looks at.
func unmapList(rest uint32, list ...descriptor) []byte {
	var out bytes.Buffer
	binary.Write(&out, binary.BigEndian, []uint16{uint16(6 + 16*len(list)), uint16(16 * len(list)), uint16(rest >> 16), uint16(rest)})
	binary.Write(&out, binary.BigEndian, list)
	return out.Bytes()
}

func TestAnyCommandsAsTheModel(t *testing.T) {
	ends := map[uint16]int{}
	for seed := range int64(400) {
		r := rand.New(rand.NewSource(seed))
		b := newBoth(t, byte(seed%4), 1+r.Intn(12), r.Intn(2) == 0)
		for range 120 {
			switch r.Intn(20) {
			case 0:
				b.same(t, true)
			case 1:
				b.setCache(r.Intn(2) == 0)
			case 2:
				lba := r.Intn(len(b.m.seen))
				b.lay(t, lba, anyBlock(r, b.m.kind, uint64(lba)))
			case 3:
				b.plan([]int{r.Intn(4), r.Intn(9)}, r.Intn(12)-3)
			}
			c, p := anyCommand(r, b.m)
			ends[b.do(t, c, p).Sense.Code]++
			if b.m.off {
				b.crash()
			}
		}
		b.same(t, false)
	}
	for _, code := range []uint16{0, 0x0c00, 0x1001, 0x1003, 0x1100, 0x1a00, 0x1d00, 0x2000, 0x2100, 0x2400} {
		if ends[code] < 30 {
			t.Errorf("only %d commands ended with %04x", ends[code], code)
		}
	}
}
