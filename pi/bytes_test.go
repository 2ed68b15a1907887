package pi

import (
	"bytes"
	"math/rand"
	"slices"
	"strings"
	"testing"

	"pallet/api"
)

func wantBytes(t *testing.T, list []api.Block, with bool, wanted []byte) {
	t.Helper()
	if got := Pack(list, with); !bytes.Equal(got, wanted) {
		t.Fatalf("Pack(%x, %v) = %x; want %x", list, with, got, wanted)
	}
}

func wantBlocks(t *testing.T, p []byte, with bool, wanted []api.Block) {
	t.Helper()
	if got, ok := Unpack(p, with); !slices.Equal(got, wanted) || !ok {
		t.Fatalf("Unpack(%x, %v) = %x, %v; want %x", p, with, got, ok, wanted)
	}
}

func wantNone(t *testing.T, p []byte, with bool) {
	t.Helper()
	if got, ok := Unpack(p, with); len(got) != 0 || ok {
		t.Fatalf("Unpack(%x, %v) = %x, %v; want none", p, with, got, ok)
	}
}

// bare tells blocks without their tuples.
func bare(list []api.Block) []api.Block {
	list = slices.Clone(list)
	for i := range list {
		list[i].Tuple = api.Tuple{}
	}
	return list
}

func sizeOf(with bool) int {
	if with {
		return 24
	}
	return 16
}

// P13.3

func TestSize(t *testing.T) {
	if Size(false) != 16 || Size(true) != 24 {
		t.Errorf("Size = %d, %d with tuples", Size(false), Size(true))
	}
}

func TestPackByHand(t *testing.T) {
	first := api.Block{Tuple: api.Tuple{Guard: 0x0102, App: 0x0304, Ref: 0x05060708}}
	copy(first.Data[:], "0123456789abcdef")
	second := api.Block{Tuple: api.Tuple{Guard: 0xfffe, App: 0xfdfc, Ref: 0xfbfaf9f8}}
	copy(second.Data[:], "ghijklmnopqrstuv")
	both := []api.Block{first, second}
	plain := []byte("0123456789abcdefghijklmnopqrstuv")
	full := []byte("0123456789abcdef\x01\x02\x03\x04\x05\x06\x07\x08ghijklmnopqrstuv\xff\xfe\xfd\xfc\xfb\xfa\xf9\xf8")
	wantBytes(t, both, false, plain)
	wantBytes(t, both, true, full)
	wantBlocks(t, plain, false, bare(both))
	wantBlocks(t, full, true, both)
	wantBytes(t, both[1:], true, full[24:])
	wantBlocks(t, full[24:], true, both[1:])
}

func TestListsOfNothing(t *testing.T) {
	for _, with := range []bool{false, true} {
		wantBytes(t, nil, with, nil)
		wantBytes(t, []api.Block{}, with, nil)
		wantBytes(t, make([]api.Block, 0, 3), with, nil)
		wantBlocks(t, nil, with, nil)
		wantBlocks(t, []byte{}, with, nil)
		wantBlocks(t, make([]byte, 24)[:0], with, nil)
	}
}

func TestPackOfAnyCount(t *testing.T) {
	r := rand.New(rand.NewSource(16))
	counts := []int{api.MaxBurst, api.MaxBurst + 1, 2 * api.MaxBurst, api.MaxBlocks + 1}
	for n := range 60 {
		counts = append(counts, n)
	}
	for _, n := range counts {
		list := anyBlocks(r, n)
		for _, with := range []bool{false, true} {
			p := modelPack(list, with)
			if len(p) != n*Size(with) {
				t.Fatalf("%d blocks have %d bytes", n, len(p))
			}
			wantBytes(t, list, with, p)
		}
		wantBlocks(t, modelPack(list, true), true, list)
		wantBlocks(t, modelPack(list, false), false, bare(list))
	}
}

func TestNoWholeCountOfBlocks(t *testing.T) {
	p := bytes.Repeat([]byte{0xa5}, 1000)
	for n := range p {
		for _, with := range []bool{false, true} {
			if n%sizeOf(with) != 0 {
				wantNone(t, p[:n], with)
			} else if got, ok := Unpack(p[:n], with); len(got) != n/sizeOf(with) || !ok {
				t.Errorf("Unpack of %d bytes, %v: %d blocks, %v", n, with, len(got), ok)
			}
		}
	}
}

func TestUnpackByHand(t *testing.T) {
	wantNone(t, []byte{0}, false)
	wantNone(t, []byte{0}, true)
	wantNone(t, make([]byte, 15), false)
	wantNone(t, make([]byte, 16), true)
	wantNone(t, make([]byte, 17), false)
	wantNone(t, make([]byte, 23), true)
	wantNone(t, make([]byte, 24), false)
	wantNone(t, make([]byte, 25), true)
	wantNone(t, make([]byte, 32), true)
	wantBlocks(t, make([]byte, 48), true, make([]api.Block, 2))
	wantBlocks(t, make([]byte, 48), false, make([]api.Block, 3))
	wantBlocks(t, mustHex(strings.Repeat("00", 16)+"1234 5678 9abcdef0"), true,
		[]api.Block{{Tuple: api.Tuple{Guard: 0x1234, App: 0x5678, Ref: 0x9abcdef0}}})
}

// Each byte of several blocks, at its place, makes one byte of them another one.
func TestEveryByteAtItsPlace(t *testing.T) {
	for _, with := range []bool{false, true} {
		for at := range 3 * sizeOf(with) {
			for b := range 256 {
				p := make([]byte, 3*sizeOf(with))
				p[at] = byte(b)
				list := make([]api.Block, 3)
				block, inside := &list[at/sizeOf(with)], at%sizeOf(with)
				switch {
				case inside < 16:
					block.Data[inside] = byte(b)
				case inside < 18:
					block.Tuple.Guard = uint16(b) << (8 * (17 - inside))
				case inside < 20:
					block.Tuple.App = uint16(b) << (8 * (19 - inside))
				default:
					block.Tuple.Ref = uint32(b) << (8 * (23 - inside))
				}
				wantBlocks(t, p, with, list)
				wantBytes(t, list, with, p)
			}
		}
	}
}

func TestTuplesAreNotToldWithoutThem(t *testing.T) {
	r := rand.New(rand.NewSource(17))
	list := anyBlocks(r, 5)
	p := Pack(list, false)
	if again := Pack(bare(list), false); !bytes.Equal(p, again) {
		t.Errorf("Pack = %x, of blocks without tuples %x", p, again)
	}
}

func TestAnyBytes(t *testing.T) {
	r := rand.New(rand.NewSource(18))
	whole := 0
	for range 20000 {
		p := make([]byte, r.Intn(200))
		if r.Intn(2) == 0 {
			p = make([]byte, 8*r.Intn(25))
		}
		r.Read(p)
		with := r.Intn(2) == 0
		ahead := bytes.Clone(p)
		list, ok := Unpack(p, with)
		if again, also := Unpack(p, with); !slices.Equal(list, again) || ok != also {
			t.Fatalf("of %x, %v other blocks come the second time", p, with)
		}
		if !bytes.Equal(p, ahead) {
			t.Fatalf("%x was changed to %x", ahead, p)
		}
		if len(p)%sizeOf(with) != 0 {
			wantNone(t, p, with)
			continue
		}
		whole++
		if !ok || !bytes.Equal(modelPack(list, with), p) || !with && !slices.Equal(list, bare(list)) {
			t.Fatalf("Unpack(%x, %v) = %x, %v", p, with, list, ok)
		}
		wantBytes(t, list, with, p)
	}
	if whole < 3000 {
		t.Errorf("only %d were whole", whole)
	}
}

// Memory.

// spoil writes over a list of bytes and its spare room.
func spoil(p []byte) {
	p = p[:cap(p)]
	for i := range p {
		p[i] ^= 0xa5
	}
}

// spoilBlocks writes over a list of blocks and its spare room.
func spoilBlocks(list []api.Block) {
	list = list[:cap(list)]
	for i := range list {
		list[i].Data[0] ^= 0xa5
		list[i].Data[15] ^= 0xa5
		list[i].Tuple.App ^= 0xa5
	}
}

func TestAnswersAreNew(t *testing.T) {
	list := anyBlocks(rand.New(rand.NewSource(19)), 3)
	for _, with := range []bool{false, true} {
		p, blocks := modelPack(list, with), list
		if !with {
			blocks = bare(list)
		}
		for n := range 4 {
			part := p[:n*sizeOf(with)]
			first, second := Pack(list[:n], with), Pack(list[:n], with)
			spoil(first)
			if !bytes.Equal(second, part) {
				t.Errorf("two answers of Pack share memory")
			}
			spoil(second)
			wantBytes(t, list[:n], with, part)
			one, _ := Unpack(part, with)
			two, _ := Unpack(part, with)
			spoilBlocks(one)
			if !slices.Equal(two, blocks[:n]) {
				t.Errorf("two answers of Unpack share memory")
			}
			spoilBlocks(two)
			wantBlocks(t, part, with, blocks[:n])
		}
		wantBytes(t, list, with, p)
		wantBlocks(t, p, with, blocks)
	}
}

func TestArgumentsAreNeitherChangedNorKept(t *testing.T) {
	for _, with := range []bool{false, true} {
		room := anyBlocks(rand.New(rand.NewSource(20)), 4)
		ahead := slices.Clone(room)
		wanted := modelPack(ahead[:2], with)
		got := Pack(room[:2], with)
		if !slices.Equal(room, ahead) {
			t.Errorf("blocks were %x, and are %x", ahead, room)
		}
		spoilBlocks(room)
		if !bytes.Equal(got, wanted) {
			t.Errorf("Pack = %x behind its argument was written over; want %x", got, wanted)
		}
		bytesRoom := modelPack(ahead, with)
		bytesAhead := bytes.Clone(bytesRoom)
		list, _ := Unpack(bytesRoom[:2*sizeOf(with)], with)
		if !bytes.Equal(bytesRoom, bytesAhead) {
			t.Errorf("bytes were %x, and are %x", bytesAhead, bytesRoom)
		}
		spoil(bytesRoom)
		if !bytes.Equal(modelPack(list, with), wanted) {
			t.Errorf("Unpack = %x behind its argument was written over", list)
		}
	}
}

// Bytes in the spare room make no block whole.
func TestSpareRoomIsNotLookedAt(t *testing.T) {
	p := modelPack(anyBlocks(rand.New(rand.NewSource(21)), 4), true)
	for n := 1; n < 24; n++ {
		wantNone(t, p[:n], true)
		if n != 16 {
			wantNone(t, p[:n], false)
		}
	}
}
