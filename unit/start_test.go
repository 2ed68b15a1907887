package unit

import (
	"strings"
	"testing"

	"pallet/api"
	"pallet/slots"
	"pallet/world"
)

// What was kept, and what may be wrong with it.

func wantStart(t *testing.T, u *Unit, wanted api.Errno) {
	t.Helper()
	if e := u.Start(); e != wanted {
		t.Fatalf("Start = %d; want %d", e, wanted)
	}
}

func TestStartsOnce(t *testing.T) {
	w := world.New()
	for _, start := range []func(u *Unit){
		func(u *Unit) { u.Start() },
		func(u *Unit) { u.Do(0, ready, nil) },
		func(u *Unit) { u.Do(0, inquiry, nil) },
		func(u *Unit) { u.Do(0, nil, nil) },
	} {
		u := newUnit(t, w, "s")
		w.Plan(nil, -1)
		start(u)
		wantCalls(t, w, 2)
		for range 3 {
			start(u)
			wantStart(t, u, api.OK)
			u.Do(1, ready, nil)
		}
		wantCalls(t, w, 2)
	}
	if len(w.Names()) != 0 {
		t.Errorf("files %q", w.Names())
	}
}

// The first Do starts the unit, also one of a number that is no nexus.
func TestStartsByAnyDo(t *testing.T) {
	for _, nexus := range []int{-1, 8} {
		w := world.New()
		u := newUnit(t, w, "s")
		want(t, u, nexus, ready, nil, noUnit)
		wantCalls(t, w, 2)
	}
}

func TestStartLetsPowerOnWait(t *testing.T) {
	u := newUnit(t, world.New(), "s")
	wantStart(t, u, api.OK)
	for nexus := range 8 {
		wantWaiting(t, u, nexus, 0x2900)
	}
	// A later Start tells nobody anything.
	wantStart(t, u, api.OK)
	for nexus := range 8 {
		wantWaiting(t, u, nexus)
	}
}

func TestNothingWasKept(t *testing.T) {
	for _, lay := range []func(w *world.World){
		func(w *world.World) {},
		func(w *world.World) { w.Write("s.p.0", 0, []byte("no slot")) },
		func(w *world.World) { w.Write("s.p.1", 0, nil) },
		func(w *world.World) {
			p, _ := slots.Record(1, []byte{7})
			p[len(p)-1]++
			w.Write("s.p.0", 0, p)
			w.Write("s.p.1", 0, p[:len(p)-1])
		},
		func(w *world.World) { // another unit's
			p, _ := slots.Record(1, []byte{7})
			w.Write("t.p.0", 0, p)
			w.Write("s.p", 0, p)
			w.Write("s.0", 0, p)
			w.Write("s.d.0", 0, p)
		},
	} {
		w := world.New()
		lay(w)
		w.Plan(nil, -1)
		u := newUnit(t, w, "s")
		wantStart(t, u, api.OK)
		wantCalls(t, w, 2)
		wake(t, w, u)
		wantValues(t, u, 0, 1, 1)
		wantTable(t, u, 0, -1)
		// There is a cache at first.
		want(t, u, 0, write0, fill(1, 16), fine(nil))
		wantCalls(t, w, 1)
	}
}

// keptTable is what may stand behind the first byte, and the table that is then.
type keptTable struct {
	text   string
	kind   byte
	holder int
	regs   []api.Reg
}

func keptTables() []keptTable {
	one := "\x00\x00\x00\x00\x00\x00\x00\x09"
	return []keptTable{
		{"", 0, -1, nil},
		{"PR\x00\xff\x00", 0, -1, nil},
		{"PR\x00\xff\x01\x03" + one, 0, -1, []api.Reg{{Nexus: 3, Key: 9}}},
		{"PR\x05\x03\x01\x03" + one, 5, 3, []api.Reg{{Nexus: 3, Key: 9}}},
		{"PR\x08\xff\x02\x00" + one + "\x07\xff" + one[1:], 8, -1, []api.Reg{{Nexus: 0, Key: 9}, {Nexus: 7, Key: 0xff00000000000009}}},
	}
}

func TestWhatWasKept(t *testing.T) {
	for _, x := range keptTables() {
		for b := range byte(8) {
			w := world.New()
			laySlot(t, w, "s", append([]byte{b}, x.text...))
			u := newUnit(t, w, "s")
			wantTable(t, u, 0, -1)
			wantStart(t, u, api.OK)
			wantCalls(t, w, 2)
			wantTable(t, u, x.kind, x.holder, x.regs...)
			nexus := 0
			if x.kind == 5 {
				nexus = 3
			}
			wantWaiting(t, u, nexus, 0x2900)
			wantValues(t, u, nexus, b, b)
			// The generation isn't kept.
			want(t, u, nexus, prIn(1), nil, fine(reservationOf(x)))
			if b&4 != 0 {
				want(t, u, nexus, write0, fill(1, 16), protected)
				continue
			}
			w.Plan(nil, -1)
			want(t, u, nexus, write0, fill(1, 16), fine(nil))
			wantCalls(t, w, 2-int(b&1))
			if (w.Waits() == 0) != (b&1 == 0) {
				t.Fatalf("values %d: %d changes wait", b, w.Waits())
			}
		}
	}
}

// reservationOf tells what PRIn tells of a table's reservation, of the generation 0.
func reservationOf(x keptTable) []byte {
	switch {
	case x.kind == 0:
		return make([]byte, 8)
	case x.holder < 0:
		return mustHex("00000000 00000010 0000000000000000 0000000000 08 0000")
	}
	return mustHex("00000000 00000010 0000000000000009 0000000000 05 0000")
}

// A table that was kept lasts: what changes in it is kept again.
func TestWhatWasKeptLasts(t *testing.T) {
	for i, x := range keptTables() {
		w := world.New()
		laySlot(t, w, "s", append([]byte{1}, x.text...))
		u := wake(t, w, newUnit(t, w, "s"))
		want(t, u, 4, prOut(6, 0), keys(0, 0, false), fine(nil))
		if i == 0 {
			wantCalls(t, w, 0)
			continue
		}
		// A Write and a Sync: it lasted ahead.
		wantCalls(t, w, 2)
		if got := kept(t, w, "s"); got != "\x01" {
			t.Errorf("kept is %q", got)
		}
	}
}

func badPayloads() []string {
	one := "\x00\x00\x00\x00\x00\x00\x00\x09"
	return []string{
		"", "\x08", "\xff", "\x10", "\x80", "\x08PR\x00\xff\x00",
		"\x01P", "\x01PR", "\x01PR\x00\xff", "\x01pr\x00\xff\x00", "\x01PR\x00\x00\x00", "\x01PR\x01\xff\x00",
		"\x01PR\x01\x00\x00", "\x01PR\x02\x00\x01\x00" + one, "\x01PR\x01\x01\x01\x00" + one, "\x01PR\x07\xff\x00",
		"\x01PR\x00\xff\x01\x08" + one, "\x01PR\x00\xff\x01\x00" + strings.Repeat("\x00", 8), "\x01PR\x00\xff\x00\x00",
		"\x01\x00", "\x01\x01",
	}
}

func TestWrongPayloads(t *testing.T) {
	for _, payload := range badPayloads() {
		w := world.New()
		laySlot(t, w, "s", []byte(payload))
		u := newUnit(t, w, "s")
		wantFault(t, w, u, api.ErrForm)
	}
}

// wantFault holds that a unit has a fault for ever: every command ends so, whoever sends it, and nothing is done.
func wantFault(t *testing.T, w *world.World, u *Unit, e api.Errno) {
	t.Helper()
	wantStart(t, u, e)
	w.Crash(w.Waits(), 0)
	count := u.Count()
	before := files(w)
	for nexus := range 8 {
		for _, x := range append(samples(), sample{0, nil, nil}, sample{0, []byte{0xff}, nil}, sample{0, prOut(0, 0), nil}) {
			want(t, u, nexus, x.cmd, x.out, notReady)
			count++
		}
	}
	if u.Count() != count {
		t.Fatalf("Count = %d; want %d", u.Count(), count)
	}
	want(t, u, 8, ready, nil, noUnit)
	u.Reset()
	want(t, u, 0, ready, nil, notReady)
	wantStart(t, u, e)
	wantCalls(t, w, 0)
	if files(w) != before {
		t.Fatal("the files have changed")
	}
	wantTable(t, u, 0, -1)
	if u.Described() {
		t.Fatal("Described")
	}
}

func TestFilesThatFailAtTheStart(t *testing.T) {
	for _, payload := range []string{"none", "\x02PR\x00\xff\x00"} {
		for at := range 3 {
			for _, stop := range []bool{false, true} {
				w := world.New()
				if payload != "none" {
					laySlot(t, w, "s", []byte(payload))
				}
				fault := api.ErrIO
				if stop {
					fault = api.ErrCrash
					w.Plan(nil, at)
				} else {
					w.Plan([]int{at}, -1)
				}
				u := newUnit(t, w, "s")
				if at == 2 { // not a call of the start
					wantStart(t, u, api.OK)
					continue
				}
				wantStart(t, u, fault)
				wantCalls(t, w, at+1)
				wantFault(t, w, u, fault)
				// One that is made anew has none.
				wantStart(t, newUnit(t, w, "s"), api.OK)
			}
		}
	}
}

func TestStartWithoutPower(t *testing.T) {
	w := world.New()
	w.Plan(nil, 0)
	w.Sync()
	u := newUnit(t, w, "s")
	want(t, u, 0, inquiry, nil, notReady)
	wantFault(t, w, u, api.ErrCrash)
}

// Of two slots the newer one counts; a wrong sum of it leaves the older one.
func TestTheNewerSlot(t *testing.T) {
	w := world.New()
	laySlot(t, w, "s", []byte{2})
	laySlot(t, w, "s", []byte{3})
	u := wake(t, w, newUnit(t, w, "s"))
	wantValues(t, u, 0, 3, 3)
	w.Write("s.p.1", 0, []byte("x"))
	u = wake(t, w, newUnit(t, w, "s"))
	wantValues(t, u, 0, 2, 2)
}
