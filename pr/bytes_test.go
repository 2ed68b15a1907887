package pr

import (
	"bytes"
	"math/rand"
	"slices"
	"testing"

	"pallet/api"
)

// P10.4.

// lasting tells the table in which 1, 4 and 7 are registered and 4 has reserved, as one that lasts.
func lasting(t *testing.T, kind byte) *Table {
	t.Helper()
	x := three(t, kind)
	wantGood(t, x, 1, Out{Service: Register, Key: keyA, Action: 0x0102030405060708, APTPL: true})
	return x
}

// saved has the bytes of lasting, but for the type and the holder.
func saved(kind, holder byte) []byte {
	p := []byte{'P', 'R', kind, holder, 3}
	p = append(p, 1, 1, 2, 3, 4, 5, 6, 7, 8)
	p = append(p, 4, 0, 0, 0, 0, 0, 0, 0, 0xb)
	return append(p, 7, 0, 0, 0, 0, 0, 0, 0, 0xc)
}

func wantBytes(t *testing.T, got, wanted []byte) {
	t.Helper()
	if !bytes.Equal(got, wanted) {
		t.Errorf("Save = %x; want %x", got, wanted)
	}
}

// wantForm looks whether bytes are no table's.
func wantForm(t *testing.T, p []byte) {
	t.Helper()
	if x, e := Load(p); x != nil || e != api.ErrForm {
		t.Errorf("Load(%x) = %v, %d; want ErrForm", p, x, e)
	}
}

func wantLoad(t *testing.T, p []byte) *Table {
	t.Helper()
	x, e := Load(p)
	if x == nil || e != api.OK {
		t.Fatalf("Load(%x) = %v, %d", p, x, e)
	}
	return x
}

func TestSave(t *testing.T) {
	for _, kind := range sixTypes() {
		holder := byte(4)
		if kind >= 7 {
			holder = 0xff
		}
		x := lasting(t, kind)
		wantBytes(t, x.Save(), saved(kind, holder))
		x.Do(4, Out{Service: Release, Key: keyB, Type: kind})
		wantBytes(t, x.Save(), saved(0, 0xff))
	}
}

func TestSaveOfATableThatDoesntLast(t *testing.T) {
	for _, kind := range sixTypes() {
		x := lasting(t, kind)
		wantGood(t, x, 7, Out{Service: Register, Key: keyC, Action: keyC})
		wantBytes(t, x.Save(), nil)
	}
}

func TestSaveWithoutRegistrations(t *testing.T) {
	x := New()
	wantGood(t, x, 0, Out{Service: Ignore, APTPL: true})
	wantBytes(t, x.Save(), []byte("PR\x00\xff\x00"))
}

func TestLoadOfNoBytes(t *testing.T) {
	for _, p := range [][]byte{nil, {}} {
		if x := wantLoad(t, p); !look(x).same(seen{holder: -1}) {
			t.Errorf("Load(%x) tells %v", p, look(x))
		}
	}
}

func TestLoad(t *testing.T) {
	for _, kind := range sixTypes() {
		x := lasting(t, kind)
		y := wantLoad(t, x.Save())
		wanted := look(x)
		wanted.gen = 0
		if !look(y).same(wanted) {
			t.Errorf("%v became %v", wanted, look(y))
		}
		wantBytes(t, y.Save(), x.Save())
		for nexus := range api.MaxNexus {
			for c := range Class(4) {
				if x.Conflict(nexus, c) != y.Conflict(nexus, c) {
					t.Errorf("type %d: Conflict(%d, %d) has changed", kind, nexus, c)
				}
			}
			if x.Holds(nexus) != y.Holds(nexus) {
				t.Errorf("type %d: Holds(%d) has changed", kind, nexus)
			}
		}
	}
}

func TestLoadOfAllNexuses(t *testing.T) {
	x := New()
	for nexus := range api.MaxNexus {
		wantGood(t, x, nexus, Out{Service: Register, Action: uint64(nexus+1) << 56, APTPL: true})
	}
	wantGood(t, x, 7, Out{Service: Reserve, Key: 8 << 56, Type: api.ExclAccess})
	y := wantLoad(t, x.Save())
	wantRegs(t, y, x.Regs()...)
	wantReserved(t, y, api.ExclAccess, 7)
	if len(x.Save()) != 5+9*api.MaxNexus {
		t.Errorf("%d bytes", len(x.Save()))
	}
}

// What all hold has no holder of its own: who reserved it may go.
func TestLoadOfWhatAllHold(t *testing.T) {
	for _, kind := range []byte{7, 8} {
		x := wantLoad(t, saved(kind, 0xff))
		wantReserved(t, x, kind, -1)
		wantHolders(t, x, 1, 4, 7)
		for _, nexus := range []int{0, 4, 1} {
			wantGood(t, x, nexus, Out{Service: Ignore, APTPL: true})
			wantReserved(t, x, kind, -1)
		}
		wantGood(t, x, 7, Out{Service: Ignore, APTPL: true})
		wantReserved(t, x, 0, -1)
		wantBytes(t, x.Save(), []byte("PR\x00\xff\x00"))
		wantGen(t, x, 4)
	}
}

func TestLoadOfATableWithoutAReservation(t *testing.T) {
	x := wantLoad(t, saved(0, 0xff))
	wantReserved(t, x, 0, -1)
	wantHolders(t, x)
	wantGood(t, x, 7, Out{Service: Reserve, Key: keyC, Type: 6})
	wantReserved(t, x, 6, 7)
	wantBytes(t, x.Save(), saved(6, 7))
}

func TestLoadOfBytesThatAreNoTable(t *testing.T) {
	for _, p := range []string{
		"P", "PR", "PR\x00", "PR\x00\xff", "Q", "pr\x00\xff\x00", "RP\x00\xff\x00", "PP\x00\xff\x00", "RR\x00\xff\x00",
		"PR\x00\xff\x00\x00", // a byte more
		"PR\x00\xff\x01",     // a registration that isn't there
		"PR\x00\xff\x01\x00\x00\x00\x00\x00\x00\x00\x00\x00", // a key 0
		"PR\x00\xff\x01\x08\x00\x00\x00\x00\x00\x00\x00\x01", // no nexus
		"PR\x00\xff\x01\xff\x00\x00\x00\x00\x00\x00\x00\x01",
		"PR\x07\xff\x00", "PR\x08\xff\x00", // all hold it, and nobody is registered
		"PR\x01\x00\x00", "PR\x06\xff\x00",
		"PR\x00\x00\x00", "PR\x00\xfe\x00",
		"\x00", "\x00\x00\x00\x00\x00",
	} {
		wantForm(t, []byte(p))
	}
	key := []byte{0, 0, 0, 0, 0, 0, 0, 1}
	for first := range 10 {
		for second := range 10 {
			p := append([]byte{'P', 'R', 0, 0xff, 2, byte(first)}, key...)
			p = append(append(p, byte(second)), key...)
			if first < second && second < 8 {
				wantLoad(t, p)
			} else {
				wantForm(t, p)
			}
		}
	}
}

// Nine registrations are one more than there are nexuses.
func TestLoadOfTooManyRegistrations(t *testing.T) {
	for n := range 256 {
		p := []byte{'P', 'R', 0, 0xff, byte(n)}
		for nexus := range n {
			p = append(p, byte(nexus), 0, 0, 0, 0, 0, 0, 0, 1)
		}
		if n <= api.MaxNexus {
			wantRegsNumber(t, wantLoad(t, p), n)
		} else {
			wantForm(t, p)
		}
	}
}

func wantRegsNumber(t *testing.T, x *Table, n int) {
	t.Helper()
	if len(x.Regs()) != n {
		t.Errorf("%d registrations; want %d", len(x.Regs()), n)
	}
}

func TestLoadLooksAtTheTypeAndTheHolder(t *testing.T) {
	for kind := range 256 {
		for holder := range 256 {
			p := saved(byte(kind), byte(holder))
			right := holder == 1 || holder == 4 || holder == 7
			switch kind {
			case 0, 7, 8:
				right = holder == 0xff
			case 1, 3, 5, 6:
			default:
				right = false
			}
			if right {
				wantBytes(t, wantLoad(t, p).Save(), p)
			} else {
				wantForm(t, p)
			}
		}
	}
}

// Each byte of a table's, changed to each other one; each beginning of it; and more behind it.
func TestLoadOfChangedBytes(t *testing.T) {
	for _, whole := range [][]byte{saved(0, 0xff), saved(3, 4), saved(8, 0xff)} {
		for at := range whole {
			for b := range 256 {
				p := slices.Clone(whole)
				p[at] = byte(b)
				wantAsTheModel(t, p)
			}
			if at > 0 {
				wantForm(t, whole[:at])
			}
			wantForm(t, append(slices.Clone(whole), whole[:at+1]...))
		}
	}
}

func TestLoadOfAnyBytes(t *testing.T) {
	r := rand.New(rand.NewSource(1))
	for range 200000 {
		p := []byte{'P', 'R', byte(r.Intn(10)), byte(r.Intn(10)), 0}
		if r.Intn(2) == 0 {
			p[3] = 0xff
		}
		nexus := 0
		for range r.Intn(5) {
			nexus += r.Intn(4)
			p = append(p, byte(nexus), 0, 0, 0, 0, 0, 0, 0, byte(r.Intn(8)))
			p[4]++
		}
		if r.Intn(8) == 0 {
			p = p[:r.Intn(len(p))]
		}
		wantAsTheModel(t, p)
	}
}

// wantAsTheModel looks whether bytes are loaded just if the model says that they are a table's, and then as those of that table.
func wantAsTheModel(t *testing.T, p []byte) {
	t.Helper()
	if len(p) == 0 {
		return
	}
	if m := loadModel(p); m == nil {
		wantForm(t, p)
	} else {
		x := wantLoad(t, p)
		wantBytes(t, x.Save(), p)
		if !look(x).same(m.look()) {
			t.Errorf("Load(%x) tells %v; want %v", p, look(x), m.look())
		}
	}
}

func TestLoadKeepsNoMemory(t *testing.T) {
	room := append(saved(5, 4), bytes.Repeat([]byte{0xdd}, 20)...)
	p := room[:len(saved(5, 4))]
	ahead := slices.Clone(room)
	x := wantLoad(t, p)
	if !bytes.Equal(room, ahead) {
		t.Errorf("Load has changed its bytes to %x", room)
	}
	for i := range room {
		room[i] = 0xee
	}
	wantBytes(t, x.Save(), saved(5, 4))
}

func TestLoadOfManyBytes(t *testing.T) {
	p := make([]byte, 1<<20)
	wantForm(t, p)
	copy(p, saved(5, 4))
	wantForm(t, p)
}
