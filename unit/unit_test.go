package unit

import (
	"math"
	"slices"
	"strings"
	"testing"

	"pallet/api"
	"pallet/inq"
	"pallet/pr"
	"pallet/world"
)

// The chapter's examples.

func TestExampleOfAttentions(t *testing.T) {
	u := newUnit(t, world.New(), "s")
	data := append(mustHex("0000060200000002"), "V       P               R   "...)
	data[4] = 0x1f
	want(t, u, 0, mustHex("12 00 00 00 24 00"), nil, fine(data))
	want(t, u, 0, ready, nil, attention(0x2900))
	want(t, u, 0, ready, nil, fine(nil))
	want(t, u, 1, ready, nil, attention(0x2900))
	want(t, u, 0, read0, nil, fine(make([]byte, 16)))
}

func TestExampleOfAReservation(t *testing.T) {
	w := world.New()
	u := newUnit(t, w, "s")
	want(t, u, 0, ready, nil, attention(0x2900))
	want(t, u, 0, prOut(6, 0), keys(0, 10, true), fine(nil))
	want(t, u, 0, prOut(1, 3), keys(10, 0, false), fine(nil))
	want(t, u, 1, read0, nil, attention(0x2900))
	want(t, u, 1, read0, nil, conflicts)
	w.Crash(0, 0)
	u = newUnit(t, w, "s")
	want(t, u, 1, read0, nil, attention(0x2900))
	want(t, u, 1, read0, nil, conflicts)
}

// P16.1: New.

func TestNewOfNames(t *testing.T) {
	for n := range 70 {
		u, e := New(world.New(), strings.Repeat("n", n), config("s", 4))
		wanted := api.OK
		if n == 0 || n > 28 {
			wanted = api.ErrArg
		}
		if e != wanted || (u != nil) != (e == api.OK) {
			t.Errorf("New with a name of %d bytes = %v, %d; want %d", n, u, e, wanted)
		}
	}
	// Names are bytes: any will do.
	for _, name := range []string{" ", "\x00", "\xff\xfe", "a/b", ".."} {
		makeUnit(t, world.New(), name, config("s", 4))
	}
	if _, e := New(world.New(), strings.Repeat("é", 15), config("s", 4)); e != api.ErrArg {
		t.Errorf("New with a name of 15 characters of 2 bytes = %d", e)
	}
}

func TestNewOfBlocks(t *testing.T) {
	for _, n := range []int{math.MinInt, -1, 0, 1, 2, 4095, 4096, 4097, math.MaxInt} {
		u, e := New(world.New(), "n", config("s", n))
		wanted := api.OK
		if n < 1 || n > 4096 {
			wanted = api.ErrArg
		}
		if e != wanted || (u != nil) != (e == api.OK) {
			t.Errorf("New of %d blocks = %v, %d; want %d", n, u, e, wanted)
		}
	}
}

func TestNewOfInfos(t *testing.T) {
	for _, x := range []struct {
		info inq.Info
		ok   bool
	}{
		{inq.Info{Serial: "s"}, true},
		{inq.Info{Vendor: "12345678", Product: "1234567890123456", Rev: "1234", Serial: "12345678901234567890", Prot: 3}, true},
		{inq.Info{}, false},
		{inq.Info{Serial: "s", Prot: 4}, false},
		{inq.Info{Serial: "s", Prot: 255}, false},
		{inq.Info{Serial: "123456789012345678901"}, false},
		{inq.Info{Serial: "s", Vendor: "123456789"}, false},
		{inq.Info{Serial: "s", Product: "12345678901234567"}, false},
		{inq.Info{Serial: "s", Rev: "12345"}, false},
		{inq.Info{Serial: "\x7f"}, false},
		{inq.Info{Serial: "s", Rev: "\n"}, false},
	} {
		u, e := New(world.New(), "n", Config{Info: x.info, Blocks: 4})
		wanted := api.ErrForm
		if x.ok {
			wanted = api.OK
		}
		if e != wanted || (u != nil) != x.ok {
			t.Errorf("New(%+v) = %v, %d; want %d", x.info, u, e, wanted)
		}
	}
}

// Of several errors the one with the least number is told.
func TestOrderOfNewsErrors(t *testing.T) {
	for _, name := range []string{"n", "", strings.Repeat("n", 29)} {
		for _, blocks := range []int{4, 0, 4097} {
			for _, serial := range []string{"s", ""} {
				for _, w := range []*world.World{world.New(), nil} {
					wanted := api.OK
					switch {
					case name != "n" || blocks != 4:
						wanted = api.ErrArg
					case serial == "":
						wanted = api.ErrForm
					case w == nil:
						wanted = api.ErrNone
					}
					u, e := New(w, name, config(serial, blocks))
					if e != wanted || (u != nil) != (e == api.OK) {
						t.Errorf("New(nil %v, %q, %q, %d) = %v, %d; want %d", w == nil, name, serial, blocks, u, e, wanted)
					}
				}
			}
		}
	}
}

func TestNewMakesNoCall(t *testing.T) {
	w := world.New()
	w.Plan([]int{0, 1, 2}, -1)
	u := newUnit(t, w, "s")
	wantCalls(t, w, 0)
	w.Plan(nil, 0)
	newUnit(t, w, "s")
	wantCalls(t, w, 0)
	if len(w.Names()) != 0 || w.Off() {
		t.Errorf("files %q, off %v", w.Names(), w.Off())
	}
	if u.Count() != 0 || u.Described() {
		t.Errorf("a new unit: Count = %d, Described = %v", u.Count(), u.Described())
	}
	wantTable(t, u, 0, -1)
	// Also where the power is off.
	w.Sync()
	if u, e := New(w, "s", config("s", 4)); !w.Off() || u == nil || e != api.OK {
		t.Errorf("New without power = %v, %d", u, e)
	}
}

// The files that a unit has, by the longest name that there is.
func TestFiles(t *testing.T) {
	w := world.New()
	name := strings.Repeat("n", 28)
	u := wake(t, w, makeUnit(t, w, name, config("s", 4)))
	want(t, u, 0, writeFUA0, fill(7, 16), fine(nil))
	register(t, u, 0, 1, true)
	register(t, u, 0, 2, true)
	if wanted := []string{name + ".d", name + ".p.0", name + ".p.1"}; !slices.Equal(w.Names(), wanted) {
		t.Errorf("files %q; want %q", w.Names(), wanted)
	}
	w.Crash(0, 0)
	u = wake(t, w, makeUnit(t, w, name, config("s", 4)))
	wantBlocks(t, u, 0, 7)
	wantTable(t, u, 0, -1, api.Reg{Nexus: 0, Key: 2})
}

// Units with other names have other files, and with the same name the same ones.
func TestNamesTellUnitsApart(t *testing.T) {
	w := world.New()
	a, b := wake(t, w, newUnit(t, w, "a")), wake(t, w, newUnit(t, w, "b"))
	want(t, a, 0, write0, fill(1, 16), fine(nil))
	reserve(t, a, 0, 3, true)
	setValues(t, a, 0, 2, true)
	wantBlocks(t, b, 1, 0)
	wantTable(t, b, 0, -1)
	wantValues(t, b, 1, 1, 1)
	again := wake(t, w, newUnit(t, w, "a"))
	wantBlocks(t, again, 0, 1)
	wantTable(t, again, 3, 0, api.Reg{Nexus: 0, Key: 1})
	wantValues(t, again, 0, 2, 2)
}

func TestBlocksAreAsMany(t *testing.T) {
	for _, n := range []int{1, 4, 4096} {
		w := world.New()
		u := wake(t, w, makeUnit(t, w, "u", config("s", n)))
		last := n - 1
		want(t, u, 0, mustHex("25 000000000000000000"), nil, fine([]byte{0, 0, byte(last >> 8), byte(last), 0, 0, 0, 16}))
		cmd := with(with(read0, 4, byte(last>>8)), 5, byte(last))
		want(t, u, 0, cmd, nil, fine(make([]byte, 16)))
		cmd = with(with(read0, 4, byte(n>>8)), 5, byte(n))
		want(t, u, 0, cmd, nil, wrongAt(5, 0x2100, uint64(n)))
	}
}

// P16.1: Class and Alters.

func TestClassAndAlters(t *testing.T) {
	reads := []api.Kind{api.TestReady, api.Read, api.Verify, api.ModeSense}
	alter := []api.Kind{api.Write, api.WriteVerify, api.WriteSame, api.Unmap, api.CompareWrite}
	writes := append([]api.Kind{api.ModeSelect, api.SyncCache, api.Copy}, alter...)
	for n := range 256 {
		k := api.Kind(n)
		wanted := pr.Free
		switch {
		case slices.Contains(reads, k):
			wanted = pr.Reads
		case slices.Contains(writes, k):
			wanted = pr.Writes
		}
		if got := Class(k); got != wanted {
			t.Errorf("Class(%d) = %d; want %d", k, got, wanted)
		}
		if got := Alters(k); got != slices.Contains(alter, k) {
			t.Errorf("Alters(%d) = %v", k, got)
		}
	}
}

// P16.3.

func TestReset(t *testing.T) {
	w, u := awake(t)
	reserve(t, u, 0, 3, false)
	setValues(t, u, 0, 3, false)
	want(t, u, 0, write0, fill(1, 16), fine(nil))
	count, waits := u.Count(), w.Waits()
	w.Plan([]int{0}, 1)
	u.Reset()
	wantCalls(t, w, 0)
	w.Plan(nil, -1)
	if u.Count() != count || w.Waits() != waits {
		t.Errorf("Reset: %d commands, %d changes wait; want %d, %d", u.Count(), w.Waits(), count, waits)
	}
	// PowerOn takes the place of all that waited.
	for nexus := range 8 {
		wantWaiting(t, u, nexus, 0x2900)
	}
	wantTable(t, u, 3, 0, api.Reg{Nexus: 0, Key: 1})
	wantValues(t, u, 0, 3, 1)
	wantBlocks(t, u, 0, 1)
	u.Reset()
	u.Reset()
	wantWaiting(t, u, 5, 0x2900)
}

// A unit is not started by Reset, nor by what is asked of it.
func TestWhatDoesNotStart(t *testing.T) {
	w := world.New()
	laySlot(t, w, "s", append([]byte{2}, "PR\x01\x00\x01\x00\x00\x00\x00\x00\x00\x00\x00\x09"...))
	u := newUnit(t, w, "s")
	u.Reset()
	u.Peers([]*Unit{newUnit(t, w, "other")})
	if u.Count() != 0 || u.Described() {
		t.Errorf("Count = %d, Described = %v", u.Count(), u.Described())
	}
	wantTable(t, u, 0, -1)
	wantCalls(t, w, 0)
	if e := u.Start(); e != api.OK {
		t.Fatalf("Start = %d", e)
	}
	wantCalls(t, w, 2)
	if !u.Described() {
		t.Error("Described = false")
	}
	wantTable(t, u, 1, 0, api.Reg{Nexus: 0, Key: 9})
	// PowerOn waits once, though Reset came ahead.
	for nexus := range 8 {
		wantWaiting(t, u, nexus, 0x2900)
	}
}

func TestCount(t *testing.T) {
	w := world.New()
	u := newUnit(t, w, "s")
	wanted := int64(0)
	holds := func() {
		t.Helper()
		if u.Count() != wanted {
			t.Fatalf("Count = %d; want %d", u.Count(), wanted)
		}
	}
	holds()
	u.Start()
	holds()
	// Told of an attention, refused, Good, kept off: each counts.
	for _, cmd := range [][]byte{ready, nil, {0xff}, {0x28}, ready, read0, write0, prOut(0, 0), with(ready, 5, 1)} {
		u.Do(0, cmd, nil)
		wanted++
		holds()
	}
	for _, nexus := range []int{math.MinInt, -1, 8, 9, math.MaxInt} {
		u.Do(nexus, ready, nil)
		holds()
	}
	u.Reset()
	u.Peers(nil)
	holds()
	for range 1000 {
		u.Do(7, inquiry, nil)
	}
	wanted += 1000
	holds()
}

func TestDescribed(t *testing.T) {
	_, u := awake(t)
	for _, b := range []byte{2, 0, 3, 1, 7, 5, 6, 4} {
		for _, save := range []bool{false, true} {
			setValues(t, u, 0, b, save)
			if u.Described() != (b&2 != 0) {
				t.Errorf("Described = %v with the values %d", u.Described(), b)
			}
		}
	}
}

func TestTable(t *testing.T) {
	_, u := awake(t)
	wantTable(t, u, 0, -1)
	register(t, u, 5, math.MaxUint64, false)
	wantTable(t, u, 0, -1, api.Reg{Nexus: 5, Key: math.MaxUint64})
	reserve(t, u, 2, 5, false)
	wantTable(t, u, 5, 2, api.Reg{Nexus: 2, Key: 3}, api.Reg{Nexus: 5, Key: math.MaxUint64})
	want(t, u, 2, prOut(2, 5), keys(3, 0, false), fine(nil))
	want(t, u, 2, prOut(1, 8), keys(3, 0, false), fine(nil))
	wantTable(t, u, 8, -1, api.Reg{Nexus: 2, Key: 3}, api.Reg{Nexus: 5, Key: math.MaxUint64})
}

// Nil units, and others that New hasn't made.

func TestNilUnit(t *testing.T) {
	var u *Unit
	if e := u.Start(); e != api.ErrNone {
		t.Errorf("Start = %d", e)
	}
	for _, x := range samples() {
		for _, nexus := range []int{math.MinInt, -1, 0, 7, 8} {
			want(t, u, nexus, x.cmd, x.out, noUnit)
		}
	}
	want(t, u, 0, nil, nil, noUnit)
	want(t, u, 0, []byte{0xff}, nil, noUnit)
	u.Peers(nil)
	u.Peers([]*Unit{nil, newUnit(t, world.New(), "s")})
	u.Reset()
	if u.Count() != 0 || u.Described() {
		t.Errorf("Count = %d, Described = %v", u.Count(), u.Described())
	}
	wantTable(t, u, 0, -1)
}

// P1: nothing else is promised of a unit that is its zero value.
func TestZeroUnit(t *testing.T) {
	u, other := &Unit{}, newUnit(t, world.New(), "s")
	u.Peers([]*Unit{u, nil, other, {}})
	other.Peers([]*Unit{u})
	calmAll(other)
	u.Start()
	for range 2 {
		for _, x := range samples() {
			u.Do(0, x.cmd, x.out)
		}
		u.Do(0, modeSelect(true, 36), values(6))
		u.Do(0, prOut(6, 0), keys(0, 1, true))
		p := segments([]string{"s"}, xcopySeg(0, 0))
		u.Do(0, copyCmd(len(p)), p)
		for service := range byte(4) {
			u.Do(0, prIn(service), nil)
		}
		u.Reset()
	}
	u.Count()
	u.Described()
	u.Table()
	p := segments([]string{""}, xcopySeg(0, 0))
	other.Do(0, copyCmd(len(p)), p)
}
