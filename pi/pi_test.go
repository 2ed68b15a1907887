package pi

import (
	"math/rand"
	"strings"
	"testing"

	"pallet/api"
)

func wantTuple(t *testing.T, kind byte, lba uint64, data [16]byte, app uint16, wanted api.Tuple) {
	t.Helper()
	if got := Make(kind, lba, data, app); got != wanted {
		t.Fatalf("Make(%d, %x, %x, %x) = %x; want %x", kind, lba, data, app, got, wanted)
	}
}

func wantCode(t *testing.T, kind, prot byte, lba uint64, b api.Block, wanted uint16) {
	t.Helper()
	if got := Check(kind, prot, lba, b); got != wanted {
		t.Fatalf("Check(%d, %d, %x, %x) = %04x; want %04x", kind, prot, lba, b, got, wanted)
	}
}

// The chapter's example.

func TestExample(t *testing.T) {
	var data [16]byte
	x := api.Tuple{Guard: 0, App: 7, Ref: 5}
	wantTuple(t, 1, 5, data, 7, x)
	b := api.Block{Data: data, Tuple: x}
	wantCode(t, 1, 1, 6, b, api.RefFailed)
	wantCode(t, 1, 4, 6, b, api.NoCode)
	wantBytes(t, []api.Block{b}, true, mustHex(strings.Repeat("00", 16)+"00 00 00 07 00 00 00 05"))
}

// P13.1: Make.

func TestMakeByHand(t *testing.T) {
	digits := [16]byte{7: '1', 8: '2', 9: '3', 10: '4', 11: '5', 12: '6', 13: '7', 14: '8', 15: '9'}
	const far = 0x1_2345_6789
	wantTuple(t, 0, far, digits, 9, api.Tuple{Guard: 0xd0db, App: 9})
	wantTuple(t, 1, far, digits, 9, api.Tuple{Guard: 0xd0db, App: 9, Ref: 0x23456789})
	wantTuple(t, 2, far, digits, 9, api.Tuple{Guard: 0xd0db, App: 9, Ref: 0x23456789})
	wantTuple(t, 3, far, digits, 9, api.Tuple{Guard: 0xd0db, App: 9})
	wantTuple(t, 4, far, digits, 9, api.Tuple{Guard: 0xd0db, App: 9})
	wantTuple(t, 255, far, digits, 0xffff, api.Tuple{Guard: 0xd0db, App: 0xffff})
	wantTuple(t, 1, 1<<32, [16]byte{15: 1}, 0, api.Tuple{Guard: 0x8bb7})
	wantTuple(t, 2, 1<<64-1, [16]byte{}, 0xffff, api.Tuple{App: 0xffff, Ref: 0xffffffff})
}

func TestMakeOfEveryKind(t *testing.T) {
	for kind := range 256 {
		for _, lba := range lbas() {
			for _, app := range apps() {
				for _, data := range datas() {
					wantTuple(t, byte(kind), lba, data, app, modelTuple(byte(kind), lba, data, app))
				}
			}
		}
	}
}

func TestMakeOfAnyData(t *testing.T) {
	r := rand.New(rand.NewSource(13))
	for range 20000 {
		b := anyBlock(r)
		kind, lba := byte(r.Intn(5)), r.Uint64()
		wantTuple(t, kind, lba, b.Data, b.Tuple.App, modelTuple(kind, lba, b.Data, b.Tuple.App))
	}
}

// Every bit of the data counts.
func TestMakeOfEveryBit(t *testing.T) {
	seen := make(map[uint16]int)
	for at := range 128 {
		var data [16]byte
		data[at/8] = 1 << (at % 8)
		guard := Make(1, 0, data, 0).Guard
		if before, there := seen[guard]; guard != guardOf(data) || guard == 0 || there {
			t.Errorf("the bit %d has the guard %04x; the bit %d too: %v", at, guard, before, there)
		}
		seen[guard] = at
	}
}

// P13.1: Known.

func TestKnownOfEveryKindAndProt(t *testing.T) {
	count := 0
	for kind := range 256 {
		for prot := range 256 {
			wanted := strings.IndexByte(knownProts(byte(kind)), byte(prot)) >= 0
			got := Known(byte(kind), byte(prot))
			if got != wanted {
				t.Errorf("Known(%d, %d) = %v", kind, prot, got)
			}
			if got {
				count++
			}
		}
	}
	if count != 1+3*5 {
		t.Errorf("%d are known", count)
	}
}

func TestKnownByHand(t *testing.T) {
	for _, c := range []struct {
		kind, prot byte
		want       bool
	}{
		{0, 0, true}, {0, 1, false}, {0, 4, false}, {0, 5, false},
		{1, 0, true}, {1, 1, true}, {1, 3, true}, {1, 4, true}, {1, 5, false}, {1, 7, false}, {1, 255, false},
		{2, 2, true}, {2, 5, false}, {3, 0, true}, {3, 4, true}, {3, 5, false},
		{4, 0, false}, {4, 1, false}, {4, 4, false}, {255, 0, false}, {255, 4, false}, {255, 255, false},
	} {
		if got := Known(c.kind, c.prot); got != c.want {
			t.Errorf("Known(%d, %d) = %v", c.kind, c.prot, got)
		}
	}
}

// P13.2: Check.

// tuples has tuples of a block at a place: with each fault, with several, and those that are not looked at.
func tuples(guard uint16, lba uint64) []api.Tuple {
	ref := uint32(lba)
	var list []api.Tuple
	for _, g := range []uint16{guard, guard ^ 1, guard ^ 0x8000, ^guard, 0xffff, 0} {
		for _, app := range []uint16{0, 7, 0x00ff, 0xff00, 0x7fff, 0xfffe, 0xffff} {
			for _, r := range []uint32{ref, ref ^ 1, ref ^ 0x80000000, ^ref, 0, 0xfffffffe, 0x7fffffff, 0xffff, 0xffff0000, 0xffffffff} {
				list = append(list, api.Tuple{Guard: g, App: app, Ref: r})
			}
		}
	}
	return list
}

func TestCheckOfEveryWayOfLooking(t *testing.T) {
	kinds := []byte{0, 1, 2, 3, 4, 5, 7, 8, 127, 128, 254, 255}
	prots := []byte{0, 1, 2, 3, 4, 5, 6, 7, 8, 9, 127, 128, 255}
	codes := make(map[uint16]int)
	for _, data := range datas()[:3] {
		guard := guardOf(data)
		for _, lba := range lbas() {
			for _, x := range tuples(guard, lba) {
				for _, kind := range kinds {
					for _, prot := range prots {
						wanted := modelCheck(kind, prot, lba, x, x.Guard == guard)
						wantCode(t, kind, prot, lba, api.Block{Data: data, Tuple: x}, wanted)
						codes[wanted]++
					}
				}
			}
		}
	}
	if len(codes) != 3 || codes[api.GuardFailed] < 1000 || codes[api.RefFailed] < 1000 {
		t.Errorf("codes: %v", codes)
	}
}

func TestCheckOfEveryKindAndProt(t *testing.T) {
	data := [16]byte{1, 2, 3}
	guard := guardOf(data)
	for _, x := range []api.Tuple{
		{Guard: guard, Ref: 5}, {Guard: guard, Ref: 6}, {Guard: guard + 1, Ref: 5}, {Guard: guard + 1, Ref: 6},
		{Guard: guard + 1, App: 0xffff, Ref: 6}, {Guard: guard + 1, App: 0xffff, Ref: 0xffffffff},
		{Guard: guard + 1, Ref: 0xffffffff},
	} {
		for kind := range 256 {
			for prot := range 256 {
				wanted := modelCheck(byte(kind), byte(prot), 5, x, x.Guard == guard)
				wantCode(t, byte(kind), byte(prot), 5, api.Block{Data: data, Tuple: x}, wanted)
			}
		}
	}
}

// Each row tells what kinds 1, 2 and 3 answer, by hand, at the prots 0 to 5.
func TestCheckByHand(t *testing.T) {
	const ok, guard, ref = api.NoCode, api.GuardFailed, api.RefFailed
	data := [16]byte{15: 1}
	for _, c := range []struct {
		name  string
		tuple api.Tuple
		bound [6]uint16 // kinds 1 and 2
		free  [6]uint16 // kind 3
	}{
		{"all right", api.Tuple{Guard: 0x8bb7, Ref: 9}, [6]uint16{}, [6]uint16{}},
		{"another guard", api.Tuple{Guard: 0x8bb6, Ref: 9}, [6]uint16{guard, guard, ok, ok, guard, ok}, [6]uint16{guard, guard, ok, ok, guard, ok}},
		{"another place", api.Tuple{Guard: 0x8bb7, Ref: 8}, [6]uint16{ref, ref, ref, ok, ok, ok}, [6]uint16{}},
		{"both", api.Tuple{Guard: 0x8bb6, Ref: 8}, [6]uint16{guard, guard, ref, ok, guard, ok}, [6]uint16{guard, guard, ok, ok, guard, ok}},
		{"App ffff", api.Tuple{Guard: 1, App: 0xffff, Ref: 8}, [6]uint16{}, [6]uint16{guard, guard, ok, ok, guard, ok}},
		{"App and Ref all ones", api.Tuple{Guard: 1, App: 0xffff, Ref: 0xffffffff}, [6]uint16{}, [6]uint16{}},
		{"Ref all ones", api.Tuple{Guard: 0x8bb7, Ref: 0xffffffff}, [6]uint16{ref, ref, ref, ok, ok, ok}, [6]uint16{}},
		{"an empty block's tuple, but for App", api.Tuple{Guard: 0xffff, App: 0xfffe, Ref: 0xffffffff}, [6]uint16{guard, guard, ref, ok, guard, ok}, [6]uint16{guard, guard, ok, ok, guard, ok}},
	} {
		for prot := range byte(6) {
			b := api.Block{Data: data, Tuple: c.tuple}
			for kind, wanted := range []uint16{ok, c.bound[prot], c.bound[prot], c.free[prot], ok} {
				if got := Check(byte(kind), prot, 9, b); got != wanted {
					t.Errorf("%s: kind %d, prot %d: %04x; want %04x", c.name, kind, prot, got, wanted)
				}
			}
		}
	}
}

func TestCheckOfPlacesAbove32Bits(t *testing.T) {
	b := api.Block{Tuple: api.Tuple{Ref: 5}}
	for _, kind := range []byte{1, 2} {
		for shift := 32; shift < 64; shift++ {
			wantCode(t, kind, 0, 1<<shift+5, b, api.NoCode)
			wantCode(t, kind, 0, 1<<shift, b, api.RefFailed)
		}
		for shift := range 32 {
			wantCode(t, kind, 0, 1<<40+5^1<<shift, b, api.RefFailed)
		}
		wantCode(t, kind, 0, 1<<64-1, api.Block{Tuple: api.Tuple{Ref: 0xffffffff}}, api.NoCode)
	}
}

func TestCheckOfEveryBitOfABlock(t *testing.T) {
	b := api.Block{Data: [16]byte{0xaa, 0xbb}}
	b.Tuple = Make(2, 77, b.Data, 3)
	wantCode(t, 2, 1, 77, b, api.NoCode)
	for at := range 128 {
		c := b
		c.Data[at/8] ^= 1 << (at % 8)
		wantCode(t, 2, 1, 77, c, api.GuardFailed)
		wantCode(t, 3, 4, 77, c, api.GuardFailed)
		wantCode(t, 2, 2, 77, c, api.NoCode)
	}
	for at := range 16 {
		c := b
		c.Tuple.Guard ^= 1 << at
		wantCode(t, 2, 1, 77, c, api.GuardFailed)
		c = b
		c.Tuple.App ^= 1 << at
		wantCode(t, 2, 1, 77, c, api.NoCode)
	}
	for at := range 32 {
		c := b
		c.Tuple.Ref ^= 1 << at
		wantCode(t, 2, 1, 77, c, api.RefFailed)
		wantCode(t, 3, 1, 77, c, api.NoCode)
	}
}

// One bit of App or Ref that isn't 1, and a block is looked at.
func TestWhatIsNotLookedAtHasAllOnes(t *testing.T) {
	b := api.Block{Tuple: api.Tuple{Guard: 1, App: 0xffff, Ref: 0xffffffff}}
	for kind := byte(1); kind <= 3; kind++ {
		wantCode(t, kind, 1, 0, b, api.NoCode)
		for at := range 16 {
			c := b
			c.Tuple.App ^= 1 << at
			wantCode(t, kind, 1, 0, c, api.GuardFailed)
		}
	}
	for at := range 32 {
		c := b
		c.Tuple.Ref ^= 1 << at
		wantCode(t, 1, 1, 0, c, api.NoCode)
		wantCode(t, 2, 1, 0, c, api.NoCode)
		wantCode(t, 3, 1, 0, c, api.GuardFailed)
	}
}

func TestWhatMakeTellsIsRight(t *testing.T) {
	r := rand.New(rand.NewSource(14))
	for range 5000 {
		b := anyBlock(r)
		lba := r.Uint64() >> r.Intn(64)
		for kind := range byte(6) {
			b.Tuple = Make(kind, lba, b.Data, b.Tuple.App)
			for prot := range byte(9) {
				wantCode(t, kind, prot, lba, b, api.NoCode)
			}
		}
	}
}

func TestCheckOfAnyBlocks(t *testing.T) {
	r := rand.New(rand.NewSource(15))
	for range 50000 {
		b := anyBlock(r)
		lba := r.Uint64() >> r.Intn(64)
		guard := guardOf(b.Data)
		if r.Intn(2) == 0 {
			b.Tuple.Guard = guard
		}
		if r.Intn(2) == 0 {
			b.Tuple.Ref = uint32(lba)
		}
		if r.Intn(4) == 0 {
			b.Tuple.App = 0xffff
		}
		kind, prot := byte(r.Intn(6)), byte(r.Intn(9))
		wantCode(t, kind, prot, lba, b, modelCheck(kind, prot, lba, b.Tuple, b.Tuple.Guard == guard))
	}
}
