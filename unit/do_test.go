package unit

import (
	"bytes"
	"encoding/binary"
	"math"
	"slices"
	"testing"

	"pallet/api"
	"pallet/cdb"
	"pallet/inq"
	"pallet/mode"
	"pallet/sbc"
	"pallet/store"
	"pallet/world"
)

// What applies ahead of all that a command wants.

func TestNumbersThatAreNoNexus(t *testing.T) {
	w, u := awake(t)
	before := files(w)
	for _, nexus := range []int{math.MinInt, -1, 8, 9, 255, 256, math.MaxInt} {
		for _, x := range samples() {
			want(t, u, nexus, x.cmd, x.out, noUnit)
		}
		want(t, u, nexus, nil, nil, noUnit)
		want(t, u, nexus, []byte{0xff}, nil, noUnit)
		want(t, u, nexus, prOut(6, 0), keys(0, 1, true), noUnit)
		want(t, u, nexus, modeSelect(true, 36), values(6), noUnit)
	}
	wantCalls(t, w, 0)
	if files(w) != before {
		t.Error("the files have changed")
	}
	wantTable(t, u, 0, -1)
	wantValues(t, u, 0, 1, 1)
}

// wrongCommands are refused whatever the unit is.
func wrongCommands() [][]byte {
	return [][]byte{
		nil, {0xff}, {0x01, 0, 0, 0, 0, 0}, {0x00}, {0x28, 0}, {0x5e}, {0x9e},
		with(ready, 2, 4), with(read0, 7, 1), with(read0, 1, 4), prOut(7, 0), prIn(4),
		mustHex("12 00 01 00ff00"), mustHex("15 00 00 00 04 00"), with(luns, 2, 3), with(copyCmd(0), 1, 1),
	}
}

// A command that is refused is told so ahead of an attention, which waits further.
func TestCommandsThatAreNone(t *testing.T) {
	w := world.New()
	u := newUnit(t, w, "s")
	u.Start()
	w.Plan(nil, -1)
	for _, cmd := range wrongCommands() {
		_, why, ok := cdb.Parse(cmd)
		if ok {
			t.Fatalf("Parse(%x) is a command", cmd)
		}
		want(t, u, 0, cmd, nil, api.Result{Status: 2, Sense: why})
		want(t, u, 0, cmd, fill(1, 24), api.Result{Status: 2, Sense: why})
	}
	wantWaiting(t, u, 0, 0x2900)
	// Also where a reservation would keep it off.
	wantWaiting(t, u, 1, 0x2900)
	reserve(t, u, 1, 3, false)
	for _, cmd := range wrongCommands() {
		_, why, _ := cdb.Parse(cmd)
		want(t, u, 0, cmd, nil, api.Result{Status: 2, Sense: why})
	}
	want(t, u, 0, []byte{0xff}, nil, inField(0x2000, 0, 7, true))
	want(t, u, 0, mustHex("000004000000"), nil, inField(0x2400, 2, 2, true))
	want(t, u, 0, nil, nil, inField(0x2400, 0, -1, true))
	wantCalls(t, w, 0)
	// What stands behind a command isn't looked at.
	want(t, u, 1, append(bytes.Clone(ready), 0xff, 0xff), nil, fine(nil))
}

func TestWhichCommandsGoAheadOfAnAttention(t *testing.T) {
	ahead := []api.Kind{api.Inquiry, api.ReportLuns, api.RequestSense}
	for _, x := range samples() {
		w, u := awake(t)
		u.attns.Add(3, 0x2a01)
		r := u.Do(3, x.cmd, x.out)
		if !slices.Contains(ahead, x.kind) {
			if !alike(r, attention(0x2a01)) {
				t.Errorf("kind %d = %+v", x.kind, r)
			}
			wantCalls(t, w, 0)
			wantWaiting(t, u, 3)
			continue
		}
		if r.Status != 0 || len(r.Data) == 0 {
			t.Errorf("kind %d = %+v", x.kind, r)
		}
		if x.kind == api.RequestSense {
			wantWaiting(t, u, 3)
		} else {
			wantWaiting(t, u, 3, 0x2a01)
		}
	}
}

// What waits is told one by one, by its rank, to its own nexus alone.
func TestOrderOfAttentions(t *testing.T) {
	_, u := awake(t)
	for _, code := range []uint16{0x2a01, 0x2a05, 0x2a03, 0x2a04} {
		u.attns.Add(2, code)
	}
	wantWaiting(t, u, 1)
	wantWaiting(t, u, 2, 0x2a05, 0x2a03, 0x2a04, 0x2a01)
	for _, code := range []uint16{0x2a01, 0x2a05} {
		u.attns.Add(2, code)
	}
	want(t, u, 2, read0, nil, attention(0x2a05))
	u.attns.Add(2, 0x2900)
	wantWaiting(t, u, 2, 0x2900)
}

func TestAttentionsAheadOfConflicts(t *testing.T) {
	_, u := awake(t)
	reserve(t, u, 0, 3, false)
	u.attns.Add(1, 0x2a01)
	u.attns.Add(1, 0x2a04)
	want(t, u, 1, read0, nil, attention(0x2a04))
	want(t, u, 1, read0, nil, attention(0x2a01))
	want(t, u, 1, read0, nil, conflicts)
	// Ahead of what is wrong with the parameters, and of a unit that is protected, too.
	setValues(t, u, 0, 5, false)
	want(t, u, 1, write0, nil, attention(0x2a01))
	want(t, u, 0, write0, nil, protected)
	u.attns.Add(0, 0x2a01)
	want(t, u, 0, modeSelect(true, 9), nil, attention(0x2a01))
	want(t, u, 0, modeSelect(true, 9), nil, badLength)
}

// A reservation keeps commands off by their class, and what is kept off changes nothing (P6).
func TestConflicts(t *testing.T) {
	reads := []api.Kind{api.TestReady, api.Read, api.Verify, api.ModeSense}
	free := []api.Kind{api.RequestSense, api.Inquiry, api.ReadCapacity, api.PRIn, api.PROut, api.ReportLuns}
	for _, kind := range []byte{1, 3, 5, 6, 7, 8} {
		for _, registered := range []bool{false, true} {
			for _, x := range samples() {
				w, u := awake(t)
				want(t, u, 0, writeFUA0, fill(9, 16), fine(nil))
				reserve(t, u, 0, kind, false)
				if registered {
					register(t, u, 4, 77, false)
				}
				off := kind == 1 || kind == 3 || !registered
				if slices.Contains(free, x.kind) || slices.Contains(reads, x.kind) && kind%2 == 1 && kind != 3 {
					off = false
				}
				before := files(w)
				r := u.Do(4, x.cmd, x.out)
				if alike(r, conflicts) != off {
					t.Fatalf("type %d, registered %v, kind %d: %+v", kind, registered, x.kind, r)
				}
				if off {
					wantCalls(t, w, 0)
					if files(w) != before {
						t.Fatalf("kind %d was kept off and has changed the files", x.kind)
					}
					wantBlocks(t, u, 0, 9)
				}
				// The holder is never kept off.
				if r := u.Do(0, x.cmd, x.out); r.Status == 0x18 {
					t.Fatalf("type %d, kind %d: the holder is answered %+v", kind, x.kind, r)
				}
			}
		}
	}
}

// Commands that are kept off aren't looked at any further, and change neither values nor what waits.
func TestConflictsAheadOfAllElse(t *testing.T) {
	w, u := awake(t)
	reserve(t, u, 0, 1, true)
	w.Plan(nil, -1)
	was := kept(t, w, "s")
	for _, x := range []sample{
		{0, modeSelect(true, 36), values(6)},
		{0, modeSelect(true, 36), nil},
		{0, write0, nil},
		{0, with(write0, 5, 99), fill(0, 16)},
		{0, copyCmd(9), nil},
		{0, copyCmd(0), nil},
		{0, mustHex("42 000000000000 0000 00"), nil},
	} {
		want(t, u, 1, x.cmd, x.out, conflicts)
	}
	wantCalls(t, w, 0)
	wantValues(t, u, 1, 1, 1)
	if kept(t, w, "s") != was {
		t.Error("what is kept has changed")
	}
	for nexus := range 8 {
		wantWaiting(t, u, nexus)
	}
	setValues(t, u, 0, 5, false)
	calmAll(u)
	want(t, u, 1, write0, fill(0, 16), conflicts)
	want(t, u, 0, write0, fill(0, 16), protected)
}

func TestProtected(t *testing.T) {
	alter := []api.Kind{api.Write, api.WriteVerify, api.WriteSame, api.Unmap, api.CompareWrite}
	for _, x := range samples() {
		for b := byte(4); b < 8; b++ {
			w, u := awake(t)
			want(t, u, 0, writeFUA0, fill(9, 16), fine(nil))
			setValues(t, u, 0, b, false)
			calmAll(u)
			before := files(w)
			r := u.Do(1, x.cmd, x.out)
			if alike(r, protected) != slices.Contains(alter, x.kind) {
				t.Fatalf("kind %d = %+v", x.kind, r)
			}
			if r.Status != 0 {
				wantCalls(t, w, 0)
			}
			if x.kind != api.SyncCache && files(w) != before {
				t.Fatalf("kind %d has changed the files", x.kind)
			}
			wantBlocks(t, u, 1, 9)
			// It is told ahead of what is wrong with the parameters.
			if slices.Contains(alter, x.kind) {
				want(t, u, 1, x.cmd, fill(1, 5), protected)
			}
			setValues(t, u, 0, b-4, false)
			calmAll(u)
			if r := u.Do(1, x.cmd, x.out); r.Sense.Code == 0x2700 {
				t.Fatalf("kind %d = %+v without SWP", x.kind, r)
			}
		}
	}
}

// By the kind.

func TestTestReady(t *testing.T) {
	w, u := awake(t)
	for nexus := range 8 {
		want(t, u, nexus, ready, nil, fine(nil))
		want(t, u, nexus, ready, fill(1, 99), fine(nil))
	}
	wantCalls(t, w, 0)
}

// cuts holds that of data the first bytes are told, as many as a command says in the size bytes from a place on.
func cuts(t *testing.T, u *Unit, cmd []byte, at, size int, wanted []byte) {
	t.Helper()
	counts := []int{0, 1, 3, 4, 7, 8, 9, len(wanted) - 1, len(wanted), len(wanted) + 1, 255}
	if size > 1 {
		counts = append(counts, 256, 65535)
	}
	if size > 2 {
		counts = append(counts, 1<<31, math.MaxUint32)
	}
	for _, n := range counts {
		if n < 0 {
			continue
		}
		number := binary.BigEndian.AppendUint64(nil, uint64(n))
		p := bytes.Clone(cmd)
		copy(p[at:], number[8-size:])
		want(t, u, 0, p, nil, fine(wanted[:min(n, len(wanted))]))
	}
}

func TestRequestSense(t *testing.T) {
	w, u := awake(t)
	long := with(reqSense, 1, 1)
	cuts(t, u, reqSense, 4, 1, mustHex("70 00 00 00000000 0a 00000000 0000 00 000000"))
	cuts(t, u, long, 4, 1, mustHex("72 00 0000 000000 00"))
	for _, x := range []struct{ cmd, first, second []byte }{
		{reqSense, mustHex("70 00 06 00000000 0a 00000000 2a05 00 000000"), mustHex("70 00 06 00000000 0a 00000000 2a01 00 000000")},
		{long, mustHex("72 06 2a05 000000 00"), mustHex("72 06 2a01 000000 00")},
	} {
		u.attns.Add(2, 0x2a01)
		u.attns.Add(2, 0x2a05)
		u.attns.Add(3, 0x2a04)
		want(t, u, 2, x.cmd, nil, fine(x.first))
		want(t, u, 2, x.cmd, nil, fine(x.second))
		wantWaiting(t, u, 2)
		wantWaiting(t, u, 3, 0x2a04)
		// Also of what is cut away the nexus was told.
		for n := range byte(20) {
			u.attns.Add(2, 0x2a05)
			want(t, u, 2, with(x.cmd, 4, n), nil, fine(x.first[:min(int(n), len(x.first))]))
			wantWaiting(t, u, 2)
		}
	}
	// DSense says nothing here.
	setValues(t, u, 0, 3, false)
	calmAll(u)
	want(t, u, 2, reqSense, nil, fine(mustHex("70 00 00 00000000 0a 00000000 0000 00 000000")))
	// Nobody is kept off.
	reserve(t, u, 0, 3, false)
	u.Reset()
	want(t, u, 2, reqSense, nil, fine(mustHex("70 00 06 00000000 0a 00000000 2900 00 000000")))
	want(t, u, 2, reqSense, nil, fine(mustHex("70 00 00 00000000 0a 00000000 0000 00 000000")))
	wantCalls(t, w, 0)
}

func TestInquiry(t *testing.T) {
	for prot := range byte(4) {
		w := world.New()
		info := inq.Info{Vendor: "VENDOR", Product: "PRODUCT", Rev: "1.0", Serial: "S 1", Prot: prot}
		u := makeUnit(t, w, "u", Config{Info: info, Blocks: 4})
		standard := append(mustHex("00000602 1f 00 0002"), "VENDOR  PRODUCT         1.0 "...)
		if prot > 0 {
			standard[5] = 1
		}
		cuts(t, u, inquiry, 3, 2, standard)
		for page := range 256 {
			cmd := mustHex("12 01 00 00ff 00")
			cmd[2] = byte(page)
			wanted, ok := inq.Page(info, byte(page))
			if !ok {
				want(t, u, 0, cmd, nil, inField(0x2400, 2, 7, true))
				want(t, u, 0, with(cmd, 4, 0), nil, inField(0x2400, 2, 7, true))
				continue
			}
			cuts(t, u, cmd, 3, 2, wanted)
		}
		want(t, u, 0, mustHex("12 01 80 00ff 00"), nil, fine(append(mustHex("00800003"), "S 1"...)))
		// The attention waits further.
		wantWaiting(t, u, 0, 0x2900)
		wantCalls(t, w, 2)
	}
}

func TestReportLuns(t *testing.T) {
	w := world.New()
	u := newUnit(t, w, "s")
	u.Peers([]*Unit{newUnit(t, w, "a"), newUnit(t, w, "b")})
	wanted := mustHex("00000008 00000000 0000000000000000")
	for page := range byte(3) {
		cuts(t, u, with(luns, 2, page), 6, 4, wanted)
	}
	wantWaiting(t, u, 0, 0x2900)
}

func TestModeSense(t *testing.T) {
	_, u := awake(t)
	setValues(t, u, 0, 6, true)
	setValues(t, u, 0, 3, false)
	pages := mode.New(mode.Values{DSense: true, SWP: true})
	pages.Select(api.Cmd{}, values(3))
	for control := range byte(4) {
		for page := range byte(64) {
			for _, long := range []bool{false, true} {
				cmd, at, size := modeSense(page, control), 4, 1
				if long {
					cmd, at, size = mustHex("5a 00 00 00 000000 0000 00"), 7, 2
					cmd[2] = control<<6 | page
				}
				p, why, ok := pages.Sense(api.Cmd{Page: page, Control: control, Long: long})
				if !ok {
					want(t, u, 0, cmd, nil, api.Result{Status: 2, Sense: why})
					want(t, u, 0, cmd, nil, inField(0x2400, 2, 5, true))
					continue
				}
				cuts(t, u, cmd, at, size, p)
			}
		}
	}
	want(t, u, 0, modeSense(0x0a, 0), nil, fine(mustHex("0f001000 0a0a04000000000000000000")))
	want(t, u, 0, modeSense(0x0a, 3), nil, fine(mustHex("0f001000 0a0a04000800000000000000")))
}

// All other kinds are the device's, of the unit's protection.
func TestCommandsOnBlocks(t *testing.T) {
	for prot := range byte(4) {
		w, other := world.New(), world.New()
		c := config("s", 5)
		c.Info.Prot = prot
		u := wake(t, w, makeUnit(t, w, "u", c))
		s, e := store.Open(other, "u.d", 5, true)
		if e != api.OK {
			t.Fatalf("Open = %d", e)
		}
		d := &sbc.Dev{Store: s, Prot: prot}
		tuple := mustHex("0000 0000 00000001")
		if prot == 3 {
			tuple = mustHex("0000 0000 00000000")
		}
		block := append(make([]byte, 16), tuple...)
		for _, x := range []sample{
			{0, mustHex("0a 00 00 01 01 00"), fill(7, 16)},
			{0, mustHex("08 00 00 01 01 00"), nil},
			{0, mustHex("08 00 00 00 00 00"), nil},
			{0, mustHex("2a 08 00000003 00 0002 00"), fill(8, 32)},
			{0, mustHex("2a 08 00000003 00 0002 00"), fill(8, 31)},
			{0, mustHex("28 20 00000000 00 0005 00"), nil},
			{0, mustHex("2a 20 00000001 00 0001 00"), block},
			{0, mustHex("2a 20 00000002 00 0001 00"), block},
			{0, mustHex("2a 60 00000002 00 0001 00"), block},
			{0, mustHex("28 20 00000000 00 0005 00"), nil},
			{0, mustHex("28 a0 00000000 00 0005 00"), nil},
			{0, mustHex("88 00 0000000000000000 00000005 0000"), nil},
			{0, mustHex("8a 00 ffffffffffffffff 00000001 0000"), fill(1, 16)},
			{0, mustHex("2e 00 00000000 00 0001 00"), fill(3, 16)},
			{0, mustHex("2f 02 00000000 00 0001 00"), fill(3, 16)},
			{0, mustHex("2f 02 00000000 00 0001 00"), fill(4, 16)},
			{0, mustHex("35 00 00000000 00 0000 00"), nil},
			{0, mustHex("91 00 0000000000000006 00000000 0000"), nil},
			{0, mustHex("41 00 00000000 00 0002 00"), fill(5, 16)},
			{0, mustHex("93 08 0000000000000001 00000000 0000"), fill(0, 16)},
			{0, mustHex("42 000000000000 0000 00"), nil},
			{0, mustHex("42 000000000000 0018 00"), mustHex("0016 0010 00000000 0000000000000000 00000001 00000000")},
			{0, mustHex("42 000000000000 0000 00"), mustHex("0016 0010 00000000 0000000000000000 00000001 00000000")},
			{0, mustHex("89 00 0000000000000001 000000 01 0000"), append(fill(0, 16), fill(6, 16)...)},
			{0, mustHex("89 00 0000000000000001 000000 01 0000"), append(fill(0, 16), fill(6, 16)...)},
			{0, mustHex("25 000000000000000000"), nil},
			{0, mustHex("9e 10 0000000000000000 00000020 0000"), nil},
			{0, mustHex("9e 10 0000000000000000 0000000d 0000"), nil},
			{0, mustHex("28 00 00000000 00 0005 00"), nil},
		} {
			cmd, _, ok := cdb.Parse(x.cmd)
			if !ok {
				t.Fatalf("Parse(%x)", x.cmd)
			}
			want(t, u, 3, x.cmd, x.out, d.Do(cmd, x.out))
			if w.Ops() != other.Ops() || w.Waits() != other.Waits() {
				t.Fatalf("Do(%x): %d calls, %d changes wait; want %d, %d", x.cmd, w.Ops(), w.Waits(), other.Ops(), other.Waits())
			}
		}
		if files(w) != files(other) {
			t.Errorf("the files are\n%s; want\n%s", files(w), files(other))
		}
	}
}

// ModeSelect.

func TestModeSelectTakesOver(t *testing.T) {
	for was := range byte(8) {
		for next := range byte(8) {
			for _, save := range []bool{false, true} {
				w, u := awake(t)
				setValues(t, u, 0, was, false)
				calmAll(u)
				w.Plan(nil, -1)
				setValues(t, u, 3, next, save)
				// A Write and a Sync keep it; without Save there is no call, though the cache may go.
				if save {
					wantCalls(t, w, 2)
					wantKept(t, w, string(next))
				} else {
					wantCalls(t, w, 0)
					wantKept(t, w, "none")
				}
				for nexus := range 8 {
					if nexus != 3 && was != next {
						wantWaiting(t, u, nexus, 0x2a01)
					} else {
						wantWaiting(t, u, nexus)
					}
				}
				saved := byte(1)
				if save {
					saved = next
				}
				wantValues(t, u, 3, next, saved)
				if next < 4 {
					want(t, u, 3, write0, fill(1, 16), fine(nil))
					wantCalls(t, w, 2-int(next&1))
				}
			}
		}
	}
}

func wantKept(t *testing.T, w *world.World, wanted string) {
	t.Helper()
	if got := kept(t, w, "s"); got != wanted {
		t.Fatalf("kept is %q; want %q", got, wanted)
	}
}

func TestModeSelectLong(t *testing.T) {
	w, u := awake(t)
	p := append(make([]byte, 4), values(6)...)
	want(t, u, 0, mustHex("55 11 00 00 000000 0028 00"), p, fine(nil))
	wantValues(t, u, 0, 6, 6)
	wantKept(t, w, "\x06")
	// A short head isn't a long one's.
	want(t, u, 0, mustHex("55 11 00 00 000000 0024 00"), values(6), inField(0x2600, 4, -1, false))
}

// Neither a byte too few nor one too many may come, and none of that is looked at.
func TestModeSelectLengths(t *testing.T) {
	w, u := awake(t)
	for _, save := range []bool{false, true} {
		for alloc := range 60 {
			for n := range 60 {
				if n == alloc {
					continue
				}
				p := append(values(6), make([]byte, 60)...)[:n]
				want(t, u, 0, modeSelect(save, alloc), p, badLength)
			}
		}
	}
	want(t, u, 0, modeSelect(true, 0), []byte{1}, badLength)
	want(t, u, 0, modeSelect(true, 255), nil, badLength)
	wantCalls(t, w, 0)
	wantValues(t, u, 0, 1, 1)
	wantWaiting(t, u, 1)
}

// Of no bytes nothing happens, and nothing is kept; of a head alone it is.
func TestModeSelectOfNothing(t *testing.T) {
	w, u := awake(t)
	setValues(t, u, 0, 3, false)
	calmAll(u)
	w.Plan([]int{0}, -1)
	want(t, u, 0, modeSelect(true, 0), nil, fine(nil))
	want(t, u, 0, modeSelect(false, 0), nil, fine(nil))
	want(t, u, 0, mustHex("55 11 00 00 000000 0000 00"), nil, fine(nil))
	wantCalls(t, w, 0)
	wantValues(t, u, 0, 3, 1)
	w.Plan(nil, -1)
	want(t, u, 0, modeSelect(true, 4), make([]byte, 4), fine(nil))
	wantCalls(t, w, 2)
	wantKept(t, w, "\x03")
	wantValues(t, u, 0, 3, 3)
	wantWaiting(t, u, 1)
}

func TestModeSelectRefuses(t *testing.T) {
	w, u := awake(t)
	setValues(t, u, 0, 0, false)
	calmAll(u)
	w.Plan(nil, -1)
	for _, p := range [][]byte{
		{0}, make([]byte, 3), with(values(7), 0, 1), with(values(7), 4, 9), with(values(7), 5, 0x13),
		values(7)[:35], values(7)[:25], with(values(7), 6, 0xff), with(values(7), 35, 1), append(values(7), 0),
	} {
		_, why, ok := mode.New(mode.Values{}).Select(api.Cmd{}, p)
		if ok {
			t.Fatalf("Select(%x) is right", p)
		}
		for _, save := range []bool{false, true} {
			want(t, u, 0, modeSelect(save, len(p)), p, api.Result{Status: 2, Sense: why})
		}
	}
	wantCalls(t, w, 0)
	wantValues(t, u, 0, 0, 1)
	for nexus := range 8 {
		wantWaiting(t, u, nexus)
	}
	// Still there is no cache.
	want(t, u, 0, write0, fill(1, 16), fine(nil))
	wantCalls(t, w, 2)
}

// Where it can't be kept, all else stays done.
func TestModeSelectThatIsNotKept(t *testing.T) {
	for at := range 2 {
		for _, stop := range []bool{false, true} {
			w, u := awake(t)
			if stop {
				w.Plan(nil, at)
			} else {
				w.Plan([]int{at}, -1)
			}
			want(t, u, 3, modeSelect(true, 36), values(2), badWrite)
			wantCalls(t, w, at+1)
			w.Plan(nil, -1)
			for nexus := range 8 {
				if nexus != 3 {
					wantWaiting(t, u, nexus, 0x2a01)
				}
			}
			wantWaiting(t, u, 3)
			wantValues(t, u, 3, 2, 2)
			if stop {
				w.Crash(0, 0)
			}
			// There is no cache any more, and the next one is kept: the slots are read anew.
			want(t, u, 3, write0, fill(1, 16), fine(nil))
			wantCalls(t, w, 2)
			w.Plan(nil, -1)
			setValues(t, u, 3, 3, true)
			wantCalls(t, w, 4)
			wantKept(t, w, "\x03")
		}
	}
	// Files that fail while nothing is to be kept say nothing.
	w, u := awake(t)
	w.Plan([]int{0, 1}, -1)
	setValues(t, u, 3, 2, false)
	wantCalls(t, w, 0)
}

// Values that are saved are kept with the table, and the other way round.
func TestKeptTogether(t *testing.T) {
	w, u := awake(t)
	setValues(t, u, 0, 6, true)
	setValues(t, u, 0, 1, false)
	wantKept(t, w, "\x06")
	calmAll(u)
	register(t, u, 2, 9, true)
	text := "PR\x00\xff\x01\x02\x00\x00\x00\x00\x00\x00\x00\x09"
	wantKept(t, w, "\x06"+text)
	calmAll(u)
	setValues(t, u, 0, 5, true)
	wantKept(t, w, "\x05"+text)
	calmAll(u)
	register(t, u, 2, 9, false)
	wantKept(t, w, "\x05")
	register(t, u, 2, 8, false)
	wantKept(t, w, "\x05")
	setValues(t, u, 2, 0, true)
	// A table that doesn't last isn't kept.
	wantKept(t, w, "\x00")
	wantTable(t, u, 0, -1, api.Reg{Nexus: 2, Key: 8})
}

// The device has the unit's cache: writes wait with it, and none wait without.
func TestCache(t *testing.T) {
	w, u := awake(t)
	want(t, u, 0, write0, fill(1, 16), fine(nil))
	if w.Waits() != 1 {
		t.Errorf("%d changes wait", w.Waits())
	}
	setValues(t, u, 0, 0, false)
	// Nothing is made durable by that.
	if w.Waits() != 1 {
		t.Errorf("%d changes wait behind ModeSelect", w.Waits())
	}
	want(t, u, 0, with(write0, 5, 1), fill(2, 16), fine(nil))
	if w.Waits() != 0 {
		t.Errorf("%d changes wait without a cache", w.Waits())
	}
	setValues(t, u, 0, 1, false)
	want(t, u, 0, write0, fill(3, 16), fine(nil))
	w.Crash(0, 0)
	u = wake(t, w, newUnit(t, w, "s"))
	wantBlocks(t, u, 0, 1, 2)
}

// Memory.

// spoil writes over a list of bytes and its spare room.
func spoil(p []byte) {
	p = p[:cap(p)]
	for i := range p {
		p[i] ^= 0xa5
	}
}

func TestAnswersAreNew(t *testing.T) {
	_, u := awake(t)
	reserve(t, u, 2, 1, true)
	register(t, u, 4, 9, true)
	want(t, u, 2, write0, fill(7, 16), fine(nil))
	for _, cmd := range [][]byte{
		reqSense, with(reqSense, 1, 1), inquiry, mustHex("12 01 83 00ff 00"), mustHex("12 01 b0 00ff 00"), luns,
		modeSense(0x3f, 0), prIn(0), prIn(1), prIn(2), prIn(3), read0, mustHex("25 000000000000000000"),
		mustHex("9e 10 0000000000000000 00000020 0000"),
	} {
		first := u.Do(2, cmd, nil)
		wanted := fine(bytes.Clone(first.Data))
		if first.Status != 0 || len(first.Data) == 0 {
			t.Fatalf("Do(%x) = %+v", cmd, first)
		}
		second := u.Do(2, cmd, nil)
		spoil(first.Data)
		if !alike(second, wanted) {
			t.Errorf("Do(%x): two answers share memory", cmd)
		}
		spoil(second.Data)
		want(t, u, 2, cmd, nil, wanted)
	}
	first, _, _ := u.Table()
	second, _, _ := u.Table()
	for i := range first[:cap(first)] {
		first[:cap(first)][i].Key++
	}
	if !slices.Equal(second, []api.Reg{{Nexus: 2, Key: 3}, {Nexus: 4, Key: 9}}) {
		t.Error("two answers of Table share memory")
	}
	wantTable(t, u, 1, 2, second...)
}

func TestArgumentsAreNeitherChangedNorKept(t *testing.T) {
	w, u := awake(t)
	copied := segments([]string{"s"}, xcopySeg(0, 0))
	for _, x := range append(samples(),
		sample{0, modeSelect(true, 36), values(1)},
		sample{0, prOut(6, 0), keys(0, 5, true)},
		sample{0, write0, fill(8, 16)},
		sample{0, copyCmd(len(copied)), copied},
	) {
		cmd := append(bytes.Clone(x.cmd), 1, 2, 3)
		out := append(bytes.Clone(x.out), 4, 5, 6)
		if r := u.Do(0, cmd[:len(x.cmd)], out[:len(x.out)]); r.Status != 0 {
			t.Fatalf("Do(%x, %x) = %+v", x.cmd, x.out, r)
		}
		if !bytes.Equal(cmd, append(bytes.Clone(x.cmd), 1, 2, 3)) || !bytes.Equal(out, append(bytes.Clone(x.out), 4, 5, 6)) {
			t.Errorf("Do(%x, %x) has changed what it was given", x.cmd, x.out)
		}
		before := files(w)
		spoil(cmd)
		spoil(out)
		if files(w) != before {
			t.Errorf("Do(%x, %x) keeps what it was given", x.cmd, x.out)
		}
	}
	wantTable(t, u, 0, -1, api.Reg{Nexus: 0, Key: 5})
	wantBlocks(t, u, 0, 8, 8)
}

// P2: units share nothing, though one is the other's peer.
func TestUnitsStandAlone(t *testing.T) {
	w := world.New()
	a, b := wake(t, w, newUnit(t, w, "a")), wake(t, w, newUnit(t, w, "b"))
	a.Peers([]*Unit{b})
	setValues(t, a, 0, 3, false)
	reserve(t, a, 0, 1, false)
	for nexus := range 8 {
		wantWaiting(t, b, nexus)
	}
	wantValues(t, b, 1, 1, 1)
	wantTable(t, b, 0, -1)
}
