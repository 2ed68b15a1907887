package cdb

import (
	"bytes"
	"math"
	"math/rand"
	"slices"
	"testing"

	"pallet/api"
)

func wantCommand(t *testing.T, text string, wanted api.Cmd) {
	t.Helper()
	if c, s, ok := Parse(mustHex(text)); c != wanted || s != (api.Sense{}) || !ok {
		t.Errorf("Parse(%s) = %+v, %+v, %v; want %+v", text, c, s, ok, wanted)
	}
}

func wantSense(t *testing.T, text string, wanted api.Sense) {
	t.Helper()
	if c, s, ok := Parse(mustHex(text)); c != (api.Cmd{}) || s != wanted || ok {
		t.Errorf("Parse(%s) = %+v, %+v, %v; want %+v", text, c, s, ok, wanted)
	}
}

func wantFault(t *testing.T, text string, field, bit int) {
	t.Helper()
	wantSense(t, text, faultOf(field, bit))
}

// wantAsModel holds Parse against the model.
func wantAsModel(t *testing.T, p []byte) {
	t.Helper()
	wanted, why, there := modelParse(p)
	if c, s, ok := Parse(p); c != wanted || s != why || ok != there {
		t.Fatalf("Parse(%x) = %+v, %+v, %v; want %+v, %+v, %v", p, c, s, ok, wanted, why, there)
	}
}

// noSuchOperation is the sense that only operations which there aren't have.
func noSuchOperation() api.Sense {
	return api.Sense{Key: 5, Code: 0x2000, Bit: 7, HasField: true, InCmd: true}
}

// plain tells for each line of the table a command that is taken, with as many bits 0 as can be.
func plain() [][]byte {
	var list [][]byte
	for _, r := range table {
		p := make([]byte, len(mustHex(r.bits)))
		p[0] = mustHex(r.bits)[0]
		switch p[0] {
		case 0x15, 0x55, 0x9e:
			p[1] = 0x10
		}
		list = append(list, p)
	}
	return list
}

// The chapter's examples.

func TestExamples(t *testing.T) {
	wantCommand(t, "28080000000500000200", api.Cmd{Kind: api.Read, LBA: 5, Blocks: 2, FUA: true})
	wantCommand(t, "080000030000", api.Cmd{Kind: api.Read, LBA: 3, Blocks: 256})
	wantSense(t, "ff", noSuchOperation())
	wantFault(t, "000004000000", 2, 2)
	wantFault(t, "2800", 2, -1)
	wantFault(t, "5f070000000000000000", 1, 4)
	wantFault(t, "28000000000000010100", 7, 7)
}

// P8.1.

func TestUsageOfEveryOperationAndService(t *testing.T) {
	for op := range 256 {
		for service := range 256 {
			var wanted []byte
			r := rowOf(byte(op))
			there := r != nil
			if there {
				wanted = mustHex(r.bits)
			}
			if list, tells := services[byte(op)]; tells {
				there = slices.Contains(list, byte(service))
			}
			if p, ok := Usage(byte(op), byte(service)); !bytes.Equal(p, wanted) || ok != there {
				t.Errorf("Usage(%02x, %02x) = %x, %v; want %x, %v", op, service, p, ok, wanted, there)
			}
		}
	}
}

func TestUsageByHand(t *testing.T) {
	for _, c := range []struct {
		op, service byte
		bits        string
		ok          bool
	}{
		{0x00, 0, "000000000000", true},
		{0x12, 0xff, "1201ffffff00", true},
		{0x28, 0, "28f8ffffffff00ffff00", true},
		{0x5e, 3, "5e1f0000000000ffff00", true},
		{0x5e, 4, "5e1f0000000000ffff00", false},
		{0x5f, 6, "5f1f0f0000ffffffff00", true},
		{0x5f, 7, "5f1f0f0000ffffffff00", false},
		{0x5f, 0x20, "5f1f0f0000ffffffff00", false},
		{0x83, 1, "831f0000000000000000ffffffff0000", false},
		{0x9e, 0x10, "9e1f0000000000000000ffffffff0000", true},
		{0x9e, 0x30, "9e1f0000000000000000ffffffff0000", false},
		{0x9e, 0, "9e1f0000000000000000ffffffff0000", false},
		{0xa0, 0, "a00003000000ffffffff0000", true},
		{0x01, 0, "", false},
		{0xff, 0, "", false},
	} {
		if p, ok := Usage(c.op, c.service); !bytes.Equal(p, mustHex(c.bits)) || ok != c.ok {
			t.Errorf("Usage(%02x, %02x) = %x, %v; want %s, %v", c.op, c.service, p, ok, c.bits, c.ok)
		}
	}
}

func TestFault(t *testing.T) {
	for _, field := range []int{0, 1, 2, 15, 65535, 65536, -1, math.MinInt, math.MaxInt} {
		for _, bit := range []int{-1, 0, 3, 7, 8, -2, math.MinInt, math.MaxInt} {
			wanted := api.Sense{Key: api.IllegalReq, Code: api.InvalidField, Field: field, Bit: bit, HasField: true, InCmd: true}
			if s := Fault(field, bit); s != wanted {
				t.Errorf("Fault(%d, %d) = %+v", field, bit, s)
			}
		}
	}
}

// P8.2: commands.

func TestCommandsOnBlocks(t *testing.T) {
	wantCommand(t, "081234560700", api.Cmd{Kind: api.Read, LBA: 0x123456, Blocks: 7})
	wantCommand(t, "081fffffff00", api.Cmd{Kind: api.Read, LBA: 0x1fffff, Blocks: 255})
	wantCommand(t, "0a1234560000", api.Cmd{Kind: api.Write, LBA: 0x123456, Blocks: 256})
	wantCommand(t, "28a80102030400001000", api.Cmd{Kind: api.Read, Prot: 5, FUA: true, LBA: 0x01020304, Blocks: 16})
	wantCommand(t, "28100000000000000000", api.Cmd{Kind: api.Read})
	wantCommand(t, "2af8ffffffff00010000", api.Cmd{Kind: api.Write, Prot: 7, FUA: true, LBA: math.MaxUint32, Blocks: 256})
	wantCommand(t, "2e700102030400000200", api.Cmd{Kind: api.WriteVerify, Prot: 3, LBA: 0x01020304, Blocks: 2})
	wantCommand(t, "2f320102030400000300", api.Cmd{Kind: api.Verify, Prot: 1, Bytes: true, LBA: 0x01020304, Blocks: 3})
	wantCommand(t, "2fe00102030400000300", api.Cmd{Kind: api.Verify, Prot: 7, LBA: 0x01020304, Blocks: 3})
	wantCommand(t, "35000102030400ffff00", api.Cmd{Kind: api.SyncCache, LBA: 0x01020304, Blocks: 0xffff})
	wantCommand(t, "41480102030400ffff00", api.Cmd{Kind: api.WriteSame, Prot: 2, Unmap: true, LBA: 0x01020304, Blocks: 0xffff})
	wantCommand(t, "88280102030405060708000001000000", api.Cmd{Kind: api.Read, Prot: 1, FUA: true, LBA: 0x0102030405060708, Blocks: 256})
	wantCommand(t, "8ad0ffffffffffffffff000000010000", api.Cmd{Kind: api.Write, Prot: 6, LBA: math.MaxUint64, Blocks: 1})
	wantCommand(t, "89a80102030405060708000000ff0000", api.Cmd{Kind: api.CompareWrite, Prot: 5, FUA: true, LBA: 0x0102030405060708, Blocks: 255})
	wantCommand(t, "91000102030405060708ffffffff0000", api.Cmd{Kind: api.SyncCache, LBA: 0x0102030405060708, Blocks: math.MaxUint32})
	wantCommand(t, "93e8010203040506070801020304"+"0000", api.Cmd{Kind: api.WriteSame, Prot: 7, Unmap: true, LBA: 0x0102030405060708, Blocks: 0x01020304})
}

func TestOtherCommands(t *testing.T) {
	wantCommand(t, "000000000000", api.Cmd{Kind: api.TestReady})
	wantCommand(t, "03000000fc00", api.Cmd{Kind: api.RequestSense, Alloc: 252})
	wantCommand(t, "030100001200", api.Cmd{Kind: api.RequestSense, Long: true, Alloc: 18})
	wantCommand(t, "120000012400", api.Cmd{Kind: api.Inquiry, Alloc: 0x124})
	wantCommand(t, "1201b0ffff00", api.Cmd{Kind: api.Inquiry, EVPD: true, Page: 0xb0, Alloc: 0xffff})
	wantCommand(t, "120100000000", api.Cmd{Kind: api.Inquiry, EVPD: true})
	wantCommand(t, "151000001800", api.Cmd{Kind: api.ModeSelect, Alloc: 24})
	wantCommand(t, "15110000ff00", api.Cmd{Kind: api.ModeSelect, Save: true, Alloc: 255})
	wantCommand(t, "1a088a00ff00", api.Cmd{Kind: api.ModeSense, Control: 2, Page: 10, Alloc: 255})
	wantCommand(t, "1a003f000400", api.Cmd{Kind: api.ModeSense, Page: 0x3f, Alloc: 4})
	wantCommand(t, "25000000000000000000", api.Cmd{Kind: api.ReadCapacity})
	wantCommand(t, "42000000000000010200", api.Cmd{Kind: api.Unmap, Alloc: 0x102})
	wantCommand(t, "55110000000000010200", api.Cmd{Kind: api.ModeSelect, Long: true, Save: true, Alloc: 0x102})
	wantCommand(t, "5a08ff00000000010200", api.Cmd{Kind: api.ModeSense, Long: true, Control: 3, Page: 0x3f, Alloc: 0x102})
	wantCommand(t, "5e030000000000010200", api.Cmd{Kind: api.PRIn, Service: 3, Alloc: 0x102})
	wantCommand(t, "5f060f00000102030400", api.Cmd{Kind: api.PROut, Service: 6, Type: 15, Alloc: 0x01020304})
	wantCommand(t, "8300000000000000000001020304"+"0000", api.Cmd{Kind: api.Copy, Alloc: 0x01020304})
	wantCommand(t, "9e100000000000000000ffffffff0000", api.Cmd{Kind: api.ReadCapacity, Long: true, Alloc: math.MaxUint32})
	wantCommand(t, "a0000200000001020304"+"0000", api.Cmd{Kind: api.ReportLuns, Page: 2, Alloc: 0x01020304})
}

func TestWhatStandsBehindIsNotLookedAt(t *testing.T) {
	for _, p := range plain() {
		wanted, _, _ := modelParse(p)
		for n := 1; n <= 20; n++ {
			longer := append(bytes.Clone(p), bytes.Repeat([]byte{0xff}, n)...)
			if c, s, ok := Parse(longer); c != wanted || s != (api.Sense{}) || !ok {
				t.Errorf("Parse(%x) = %+v, %+v, %v; want %+v", longer, c, s, ok, wanted)
			}
		}
	}
}

// P8.2: faults.

func TestNoBytes(t *testing.T) {
	wantFault(t, "", 0, -1)
	if _, s, ok := Parse(nil); s != faultOf(0, -1) || ok {
		t.Errorf("Parse(nil) = %+v, %v", s, ok)
	}
}

func TestOneByteAlone(t *testing.T) {
	for op := range 256 {
		p := []byte{byte(op)}
		wanted := faultOf(1, -1)
		if rowOf(p[0]) == nil {
			wanted = noSuchOperation()
		}
		if c, s, ok := Parse(p); c != (api.Cmd{}) || s != wanted || ok {
			t.Errorf("Parse(%x) = %+v, %+v, %v; want %+v", p, c, s, ok, wanted)
		}
	}
}

func TestCommandsTooShort(t *testing.T) {
	for _, p := range plain() {
		for n := 1; n < len(p); n++ {
			short := bytes.Clone(p[:n])
			if c, s, ok := Parse(short); c != (api.Cmd{}) || s != faultOf(n, -1) || ok {
				t.Errorf("Parse(%x) = %+v, %+v, %v", short, c, s, ok)
			}
			// Bytes in spare room are none.
			if _, s, ok := Parse(p[:n]); s != faultOf(n, -1) || ok {
				t.Errorf("Parse looked behind the end of %x: %+v, %v", p[:n], s, ok)
			}
		}
	}
}

func TestShortGoesAheadOfOtherFaults(t *testing.T) {
	wantFault(t, "00ffffffff", 5, -1)
	wantFault(t, "5e1f", 2, -1)
	wantFault(t, "5fff00000000000000", 9, -1)
	wantFault(t, "150000000000"[:10], 5, -1)
	wantFault(t, "28000000000000ffff", 9, -1)
}

func TestBitsThatMustBeZero(t *testing.T) {
	for _, p := range plain() {
		bits := mustHex(rowOf(p[0]).bits)
		for i := 1; i < len(p); i++ {
			for bit := range 8 {
				if bits[i]>>bit&1 == 1 {
					continue
				}
				other := bytes.Clone(p)
				other[i] |= 1 << bit
				if c, s, ok := Parse(other); c != (api.Cmd{}) || s != faultOf(i, bit) || ok {
					t.Errorf("Parse(%x) = %+v, %+v, %v; want fault %d, %d", other, c, s, ok, i, bit)
				}
			}
		}
	}
}

func TestTheFirstByteAndItsHighestBit(t *testing.T) {
	wantFault(t, "00ffffffffff", 1, 7)
	wantFault(t, "000000010080", 3, 0)
	wantFault(t, "280700000000ff000000", 1, 2)
	wantFault(t, "28f8ffffffff05ffff80", 6, 2)
	wantFault(t, "5fff0000000000000000", 1, 7)
	wantFault(t, "5f00ff00000000000000", 2, 7)
	wantFault(t, "a0000700000000000000"+"0000", 2, 2)
	wantFault(t, "120000000001", 5, 0)
}

func TestServicesThatThereAreNot(t *testing.T) {
	for op, list := range services {
		for service := range byte(32) {
			p := make([]byte, len(mustHex(rowOf(op).bits)))
			p[0], p[1] = op, service
			c, s, ok := Parse(p)
			if slices.Contains(list, service) {
				if c.Kind != rowOf(op).kind || s != (api.Sense{}) || !ok {
					t.Errorf("Parse(%x) = %+v, %+v, %v", p, c, s, ok)
				}
			} else if c != (api.Cmd{}) || s != faultOf(1, 4) || ok {
				t.Errorf("Parse(%x) = %+v, %+v, %v; want fault 1, 4", p, c, s, ok)
			}
		}
	}
	// A bit that must be 0 goes ahead.
	wantFault(t, "5e1f0000000000000001", 9, 0)
	wantFault(t, "9e000001000000000000"+"000000000000", 3, 0)
}

func TestFaultsOfTheTable(t *testing.T) {
	wantFault(t, "120001000000", 2, 7)
	wantFault(t, "1200ff000000", 2, 7)
	wantFault(t, "150000000000", 1, 4)
	wantFault(t, "150100001800", 1, 4)
	wantFault(t, "55000000000000000000", 1, 4)
	wantFault(t, "55010000000000ffff00", 1, 4)
	wantFault(t, "a0000300000000000000"+"0000", 2, 1)
	for page, text := range []string{"a00000000000000000000000", "a00001000000000000000000", "a00002000000000000000000"} {
		wantCommand(t, text, api.Cmd{Kind: api.ReportLuns, Page: byte(page)})
	}
	// A bit that must be 0 goes ahead, though it stands behind.
	wantFault(t, "1200ff000001", 5, 0)
	wantFault(t, "150000000001", 5, 0)
	wantFault(t, "a0000300000000000000"+"0001", 11, 0)
}

func TestMoreBlocksThanABurst(t *testing.T) {
	for _, op := range []byte{0x28, 0x2a, 0x2e, 0x2f} {
		for _, blocks := range []int{0, 1, 255, 256, 257, 0x200, 0xffff} {
			wantBurst(t, []byte{op, 0, 0, 0, 0, 0, 0, byte(blocks >> 8), byte(blocks), 0}, blocks, 7)
		}
	}
	for _, op := range []byte{0x88, 0x8a} {
		for _, blocks := range []int{0, 1, 255, 256, 257, 0xffff, 1 << 16, 1 << 24, math.MaxUint32} {
			p := make([]byte, 16)
			p[0], p[10], p[11], p[12], p[13] = op, byte(blocks>>24), byte(blocks>>16), byte(blocks>>8), byte(blocks)
			wantBurst(t, p, blocks, 10)
		}
	}
}

func wantBurst(t *testing.T, p []byte, blocks, at int) {
	t.Helper()
	c, s, ok := Parse(p)
	if blocks > 256 {
		if c != (api.Cmd{}) || s != faultOf(at, 7) || ok {
			t.Errorf("Parse(%x) = %+v, %+v, %v; want fault %d, 7", p, c, s, ok, at)
		}
	} else if c.Blocks != uint64(blocks) || s != (api.Sense{}) || !ok {
		t.Errorf("Parse(%x) = %+v, %+v, %v; want %d blocks", p, c, s, ok, blocks)
	}
}

// P8.2 against the model.

func TestEveryByteAtEveryPlace(t *testing.T) {
	for _, p := range plain() {
		for i := range p {
			for b := range 256 {
				other := bytes.Clone(p)
				other[i] = byte(b)
				wantAsModel(t, other)
			}
		}
	}
}

func TestEveryPairOfTheFirstBytes(t *testing.T) {
	for op := range 256 {
		for first := range 256 {
			for _, n := range []int{2, 5, 6, 9, 10, 11, 12, 15, 16, 17} {
				p := make([]byte, n)
				p[0], p[1] = byte(op), byte(first)
				wantAsModel(t, p)
				p[2%n] |= 0x83
				wantAsModel(t, p)
			}
		}
	}
}

// Most random bytes have a bit that must be 0: here only some of these bits are left.
func TestRandomCommands(t *testing.T) {
	r := rand.New(rand.NewSource(1))
	taken := 0
	for range 400000 {
		row := table[r.Intn(len(table))]
		bits := mustHex(row.bits)
		p := make([]byte, len(bits)+r.Intn(4))
		r.Read(p)
		for i := range bits {
			p[i] &= bits[i]
			if i >= 7 && r.Intn(4) == 0 {
				p[i] = 0
			}
		}
		p[0] = bits[0]
		if r.Intn(4) == 0 {
			p[1+r.Intn(len(p)-1)] |= 1 << r.Intn(8)
		}
		if r.Intn(4) == 0 && len(services[p[0]]) > 0 {
			p[1] = services[p[0]][r.Intn(len(services[p[0]]))]
		}
		wantAsModel(t, p)
		if _, _, ok := Parse(p); ok {
			taken++
		}
	}
	if taken < 100000 {
		t.Errorf("only %d commands were taken", taken)
	}
}

func TestRandomBytes(t *testing.T) {
	r := rand.New(rand.NewSource(2))
	for range 200000 {
		p := make([]byte, r.Intn(20))
		r.Read(p)
		wantAsModel(t, p)
	}
}

// The rules on memory, P1 and P2.

func TestUsageIsNewMemory(t *testing.T) {
	for op := range 256 {
		first, ok := Usage(byte(op), 0)
		own := bytes.Clone(first)
		second, _ := Usage(byte(op), 0)
		room := first[:cap(first)]
		for i := range room {
			room[i] ^= 0x55
		}
		if !bytes.Equal(second, own) {
			t.Errorf("Usage(%02x) shares memory with an earlier answer", op)
		}
		third, again := Usage(byte(op), 0)
		if !bytes.Equal(third, own) || again != ok {
			t.Errorf("Usage(%02x) = %x, %v, and then %x, %v", op, own, ok, third, again)
		}
	}
	for _, p := range plain() {
		wantAsModel(t, p)
	}
}

func TestParseLeavesItsArgument(t *testing.T) {
	for _, p := range plain() {
		room := append(bytes.Clone(p), 1, 2, 3)
		own := bytes.Clone(room)
		c, s, ok := Parse(room[:len(p)])
		if !bytes.Equal(room, own) {
			t.Errorf("Parse has changed its argument: %x", room)
		}
		if d, r, again := Parse(room[:len(p)]); d != c || r != s || again != ok {
			t.Errorf("Parse(%x) = %+v, %+v, %v, and then %+v, %+v, %v", p, c, s, ok, d, r, again)
		}
	}
}

func TestParseOfManyBytes(t *testing.T) {
	p := make([]byte, 1<<20)
	p[0] = 0x12
	for i := 6; i < len(p); i++ {
		p[i] = 0xff
	}
	if c, _, ok := Parse(p); c != (api.Cmd{Kind: api.Inquiry}) || !ok {
		t.Errorf("Parse of many bytes = %+v, %v", c, ok)
	}
}
