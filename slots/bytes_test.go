package slots

import (
	"bytes"
	"encoding/binary"
	"hash/crc32"
	"math"
	"math/rand"
	"testing"

	"pallet/api"
)

// sealed tells bytes with their sum behind them.
func sealed(p []byte) []byte {
	return binary.BigEndian.AppendUint32(bytes.Clone(p), crc32.Checksum(p, crc32.MakeTable(crc32.Castagnoli)))
}

// record tells a slot's bytes by the chapter's words, of a payload of any length.
func record(gen uint64, payload []byte) []byte {
	p := binary.BigEndian.AppendUint64([]byte("SLOT"), gen)
	p = binary.BigEndian.AppendUint32(p, uint32(len(payload)))
	return sealed(append(p, payload...))
}

// filled tells a payload of n bytes that differ from place to place and from seed to seed.
func filled(n int, seed int64) []byte {
	p := make([]byte, n)
	rand.New(rand.NewSource(seed)).Read(p)
	return p
}

func wantSlot(t *testing.T, p []byte, gen uint64, payload []byte) {
	t.Helper()
	g, got, e := Decode(p)
	if g != gen || !bytes.Equal(got, payload) || e != api.OK {
		t.Errorf("Decode = %d, %x, %d; want %d, %x", g, got, e, gen, payload)
	}
}

func wantNoSlot(t *testing.T, what string, p []byte, wanted api.Errno) {
	t.Helper()
	g, got, e := Decode(p)
	if g != 0 || len(got) != 0 || e != wanted {
		t.Errorf("Decode of %s = %d, %x, %d; want %d", what, g, got, e, wanted)
	}
}

var (
	lengths     = []int{0, 1, 2, 20, 255, 256, 257, api.MaxPayload - 1, api.MaxPayload}
	generations = []uint64{0, 1, 2, 0x0102030405060708, math.MaxUint32, math.MaxUint32 + 1, math.MaxUint64}
)

func TestExampleRecord(t *testing.T) {
	p, e := Record(1, []byte("a"))
	if len(p) != 21 || e != api.OK {
		t.Fatalf("Record has %d bytes, %d", len(p), e)
	}
	wantNoSlot(t, "its first 20", p[:20], api.ErrForm)
	for bit := range 8 {
		p[20] ^= 1 << bit
		wantNoSlot(t, "a turned last byte", p, api.ErrSum)
		p[20] ^= 1 << bit
	}
}

// P5.1.

func TestRecordAndDecode(t *testing.T) {
	for _, n := range lengths {
		for _, gen := range generations {
			payload := filled(n, 1)
			p, e := Record(gen, payload)
			if !bytes.Equal(p, record(gen, payload)) || e != api.OK {
				t.Fatalf("Record(%d, %d bytes) = %x, %d", gen, n, p, e)
			}
			wantSlot(t, p, gen, payload)
			wantSlot(t, append(p, 0), gen, payload)
			wantSlot(t, append(p, filled(5000, 2)...), gen, payload)
		}
	}
}

func TestRecordTooLong(t *testing.T) {
	for _, n := range []int{api.MaxPayload + 1, 2 * api.MaxPayload, 1 << 20} {
		if p, e := Record(1, make([]byte, n)); len(p) != 0 || e != api.ErrLong {
			t.Errorf("Record of %d bytes = %d bytes, %d", n, len(p), e)
		}
	}
}

func TestDecodeTooShort(t *testing.T) {
	wantNoSlot(t, "nothing", nil, api.ErrForm)
	for _, n := range []int{0, 1, 30, api.MaxPayload} {
		p := record(3, filled(n, 1))
		for cut := range p {
			wantNoSlot(t, "a beginning", p[:cut:cut], api.ErrForm)
		}
		// What the memory has behind p isn't p's.
		wantNoSlot(t, "a beginning with room", p[:len(p)-1], api.ErrForm)
	}
}

func TestDecodeOfAnotherMark(t *testing.T) {
	for i := range 4 {
		for bit := range 8 {
			p := record(3, []byte("abc"))
			p[i] ^= 1 << bit
			wantNoSlot(t, "another mark", p, api.ErrForm)
			wantNoSlot(t, "another mark with its sum", sealed(p[:len(p)-4]), api.ErrForm)
		}
	}
}

func TestDecodeOfALengthTooGreat(t *testing.T) {
	wantNoSlot(t, "one byte more than there may be", record(3, filled(api.MaxPayload+1, 1)), api.ErrForm)
	wantNoSlot(t, "far too many bytes", record(3, filled(3*api.MaxPayload, 1)), api.ErrForm)
	for _, length := range []uint32{api.MaxPayload + 1, math.MaxInt32, math.MaxInt32 + 1, math.MaxUint32 - 19, math.MaxUint32} {
		p := append(record(3, nil), filled(2*api.MaxPayload, 1)...)
		binary.BigEndian.PutUint32(p[12:], length)
		wantNoSlot(t, "a length too great", p, api.ErrForm)
	}
}

func TestDecodeOfAWrongSum(t *testing.T) {
	for _, n := range []int{0, 1, 30} {
		p := record(0x0102030405060708, filled(n, 1))
		for i := 4; i < len(p); i++ {
			// Another length moves the end, and has tests of its own.
			if i >= 12 && i < 16 {
				continue
			}
			for bit := range 8 {
				p[i] ^= 1 << bit
				wantNoSlot(t, "a turned bit", p, api.ErrSum)
				p[i] ^= 1 << bit
			}
		}
	}
}

func TestDecodeOfAnotherLength(t *testing.T) {
	p := append(record(3, filled(30, 1)), filled(30, 2)...)
	for length := range uint32(70) {
		binary.BigEndian.PutUint32(p[12:], length)
		switch {
		case length == 30:
			wantSlot(t, p, 3, filled(30, 1))
		case length <= 60:
			wantNoSlot(t, "another length", p, api.ErrSum)
		default:
			wantNoSlot(t, "a length that ends behind the bytes", p, api.ErrForm)
		}
	}
}

// The rules on memory.

func TestMemoryOfRecordAndDecode(t *testing.T) {
	whole := filled(40, 1)
	own := bytes.Clone(whole)
	p, _ := Record(5, whole[:20])
	if !bytes.Equal(whole, own) {
		t.Errorf("Record has changed its argument: %x", whole)
	}
	spoil(whole)
	if !bytes.Equal(p, record(5, own[:20])) {
		t.Errorf("Record shares memory with its argument: %x", p)
	}
	room := append(p, 1, 2, 3)
	kept := bytes.Clone(room)
	_, payload, _ := Decode(room[:len(p)])
	_, again, _ := Decode(room[:len(p)])
	if !bytes.Equal(room, kept) {
		t.Errorf("Decode has changed its argument: %x", room)
	}
	spoil(room)
	spoil(again)
	if !bytes.Equal(payload, own[:20]) {
		t.Errorf("Decode shares memory with its argument or an earlier answer: %x", payload)
	}
}

// spoil writes over a list and its spare room; twice is not as if never.
func spoil(p []byte) {
	p = p[:cap(p)]
	for i := range p {
		p[i]++
	}
}
