package pr

import (
	"math"
	"slices"
	"testing"

	"pallet/api"
)

// Keys of the tests.
const (
	keyA uint64 = 0xa
	keyB uint64 = 0xb
	keyC uint64 = 0xc
)

// noNexus has numbers that are no nexus.
func noNexus() []int {
	return []int{-1, -2, api.MaxNexus, api.MaxNexus + 1, 255, 256, 1 << 32, math.MinInt, math.MaxInt}
}

// sixTypes has the types of reservations, noTypes the other bytes.
func sixTypes() []byte { return []byte{1, 3, 5, 6, 7, 8} }

func noTypes() []byte {
	var out []byte
	for kind := range 256 {
		if !slices.Contains(sixTypes(), byte(kind)) {
			out = append(out, byte(kind))
		}
	}
	return out
}

func told(code uint16, nexuses ...int) []Event {
	var out []Event
	for _, nexus := range nexuses {
		out = append(out, Event{nexus, code})
	}
	return out
}

// want does a service and holds its status, its code and its events against those wanted.
func want(t *testing.T, x *Table, nexus int, o Out, status api.Status, code uint16, events ...Event) {
	t.Helper()
	s, c, l := x.Do(nexus, o)
	if s != status || c != code || !slices.Equal(l, events) {
		t.Errorf("Do(%d, %+v) = %x, %04x, %x; want %x, %04x, %x", nexus, o, s, c, l, status, code, events)
	}
}

func wantGood(t *testing.T, x *Table, nexus int, o Out, events ...Event) {
	t.Helper()
	want(t, x, nexus, o, api.Good, 0, events...)
}

// seen is all that a table tells but conflicts and bytes.
type seen struct {
	regs   []api.Reg
	kind   byte
	holder int
	gen    uint32
	lasts  bool
}

func look(x *Table) seen {
	kind, holder := x.Reserved()
	return seen{x.Regs(), kind, holder, x.Gen(), x.Lasts()}
}

func (s seen) same(o seen) bool {
	return slices.Equal(s.regs, o.regs) && s.kind == o.kind && s.holder == o.holder && s.gen == o.gen && s.lasts == o.lasts
}

// refused does a service that must not be Good, and looks whether nothing has changed.
func refused(t *testing.T, x *Table, nexus int, o Out, status api.Status, code uint16) {
	t.Helper()
	ahead, bytes := look(x), x.Save()
	want(t, x, nexus, o, status, code)
	if now := look(x); !now.same(ahead) || !slices.Equal(x.Save(), bytes) {
		t.Errorf("Do(%d, %+v) has changed %v to %v", nexus, o, ahead, now)
	}
}

func wantReserved(t *testing.T, x *Table, kind byte, holder int) {
	t.Helper()
	if k, h := x.Reserved(); k != kind || h != holder {
		t.Errorf("Reserved = %d, %d; want %d, %d", k, h, kind, holder)
	}
}

func wantRegs(t *testing.T, x *Table, wanted ...api.Reg) {
	t.Helper()
	if got := x.Regs(); !slices.Equal(got, wanted) {
		t.Errorf("Regs = %v; want %v", got, wanted)
	}
}

func wantGen(t *testing.T, x *Table, wanted uint32) {
	t.Helper()
	if got := x.Gen(); got != wanted {
		t.Errorf("Gen = %d; want %d", got, wanted)
	}
}

// wantHolders looks whether these nexuses hold the reservation, and nobody else.
func wantHolders(t *testing.T, x *Table, holders ...int) {
	t.Helper()
	for nexus := range api.MaxNexus {
		if got := x.Holds(nexus); got != slices.Contains(holders, nexus) {
			t.Errorf("Holds(%d) = %t; want %t", nexus, got, !got)
		}
	}
	for _, nexus := range noNexus() {
		if x.Holds(nexus) {
			t.Errorf("Holds(%d)", nexus)
		}
	}
}

// with tells a table with registrations.
func with(t *testing.T, regs ...api.Reg) *Table {
	t.Helper()
	x := New()
	for _, r := range regs {
		wantGood(t, x, r.Nexus, Out{Service: Ignore, Action: r.Key})
	}
	return x
}

// three tells a table in which 1, 4 and 7 are registered, and 4 has reserved.
func three(t *testing.T, kind byte) *Table {
	t.Helper()
	x := with(t, api.Reg{Nexus: 1, Key: keyA}, api.Reg{Nexus: 4, Key: keyB}, api.Reg{Nexus: 7, Key: keyC})
	wantGood(t, x, 4, Out{Service: Reserve, Key: keyB, Type: kind})
	return x
}

// The chapter's examples, and the sixth one of the whole.

func TestFirstExample(t *testing.T) {
	x := New()
	wantGood(t, x, 0, Out{Service: Ignore, Action: keyA})
	wantGood(t, x, 1, Out{Service: Ignore, Action: keyB})
	wantGood(t, x, 0, Out{Service: Reserve, Key: keyA, Type: 1})
	if !x.Conflict(1, Writes) || x.Conflict(1, Reads) {
		t.Error("conflicts")
	}
	wantGood(t, x, 1, Out{Service: Preempt, Key: keyB, Action: keyA, Type: 3}, told(api.RegPreempted, 0)...)
	wantReserved(t, x, 3, 1)
}

func TestSecondExample(t *testing.T) {
	x := New()
	wantGood(t, x, 0, Out{Service: Register, Action: keyA})
	wantGood(t, x, 0, Out{Service: Reserve, Key: keyA, Type: 5})
	wantGood(t, x, 1, Out{Service: Ignore, Action: keyB})
	wantGood(t, x, 0, Out{Service: Release, Key: keyA, Type: 5}, told(api.ResReleased, 1)...)
}

func TestExampleOfTheWhole(t *testing.T) {
	x := three(t, api.ExclAccess)
	for nexus := range api.MaxNexus {
		if got := x.Conflict(nexus, Reads); got != (nexus != 4) {
			t.Errorf("Conflict(%d, Reads) = %t", nexus, got)
		}
	}
}

// P10.1.

func TestNewTableHasNothing(t *testing.T) {
	x := New()
	if x == nil {
		t.Fatal("no table")
	}
	if !look(x).same(seen{holder: -1}) || len(x.Save()) != 0 {
		t.Errorf("a new table tells %v", look(x))
	}
	wantHolders(t, x)
}

func TestTypes(t *testing.T) {
	for kind := range 256 {
		if got := Types(byte(kind)); got != slices.Contains(sixTypes(), byte(kind)) {
			t.Errorf("Types(%d) = %t", kind, got)
		}
		if got := All(byte(kind)); got != (kind == 7 || kind == 8) {
			t.Errorf("All(%d) = %t", kind, got)
		}
	}
}

func TestConstants(t *testing.T) {
	if Register != 0 || Reserve != 1 || Release != 2 || Clear != 3 || Preempt != 4 || Abort != 5 || Ignore != 6 {
		t.Error("services")
	}
	if Free != 0 || Reads != 1 || Writes != 2 {
		t.Error("classes")
	}
}

func TestNoNexusAndNoService(t *testing.T) {
	x := three(t, api.ExclAll)
	for _, nexus := range noNexus() {
		for service := range 256 {
			refused(t, x, nexus, Out{Service: byte(service), Type: api.ExclAll, Action: keyA}, api.Check, api.InvalidField)
		}
	}
	for service := 7; service < 256; service++ {
		for nexus := range api.MaxNexus {
			refused(t, x, nexus, Out{Service: byte(service), Type: api.ExclAll, Key: keyB, Action: keyA}, api.Check, api.InvalidField)
		}
	}
}

func TestRegister(t *testing.T) {
	x := New()
	refused(t, x, 3, Out{Service: Register, Key: keyA, Action: keyB, APTPL: true}, api.Conflict, 0)
	wantGood(t, x, 3, Out{Service: Register, Action: keyA})
	wantRegs(t, x, api.Reg{Nexus: 3, Key: keyA})
	refused(t, x, 3, Out{Service: Register, Action: keyB, APTPL: true}, api.Conflict, 0)
	refused(t, x, 3, Out{Service: Register, Key: keyB, APTPL: true}, api.Conflict, 0)
	refused(t, x, 2, Out{Service: Register, Key: keyA, Action: keyB, APTPL: true}, api.Conflict, 0)
	wantGood(t, x, 3, Out{Service: Register, Key: keyA, Action: keyB})
	wantRegs(t, x, api.Reg{Nexus: 3, Key: keyB})
	wantGood(t, x, 3, Out{Service: Register, Key: keyB})
	wantRegs(t, x)
	wantGen(t, x, 3)
	wantGood(t, x, 3, Out{Service: Register})
	wantRegs(t, x)
	wantGen(t, x, 4)
}

func TestIgnoreLooksAtNoKey(t *testing.T) {
	x := New()
	wantGood(t, x, 3, Out{Service: Ignore, Key: keyC, Action: keyA})
	wantGood(t, x, 0, Out{Service: Ignore, Key: keyC, Action: math.MaxUint64})
	wantGood(t, x, 3, Out{Service: Ignore, Key: keyC, Action: keyB})
	wantRegs(t, x, api.Reg{Nexus: 0, Key: math.MaxUint64}, api.Reg{Nexus: 3, Key: keyB})
	wantGood(t, x, 3, Out{Service: Ignore, Key: keyC})
	wantRegs(t, x, api.Reg{Nexus: 0, Key: math.MaxUint64})
	wantGood(t, x, 5, Out{Service: Ignore})
	wantRegs(t, x, api.Reg{Nexus: 0, Key: math.MaxUint64})
	wantGen(t, x, 5)
}

func TestRegistrationSaysWhetherTheTableLasts(t *testing.T) {
	x := New()
	for i, service := range []byte{Ignore, Register, Ignore, Ignore, Register, Register} {
		lasts := i%3 != 1
		key := uint64(0)
		if i > 0 {
			key = keyA + uint64(i-1)
		}
		wantGood(t, x, 0, Out{Service: service, Key: key, Action: keyA + uint64(i), APTPL: lasts})
		if x.Lasts() != lasts {
			t.Errorf("step %d: Lasts = %t", i, x.Lasts())
		}
	}
	wantGood(t, x, 1, Out{Service: Ignore, APTPL: false})
	if x.Lasts() {
		t.Error("lasts though one that isn't registered said no")
	}
	wantGood(t, x, 0, Out{Service: Ignore, APTPL: true})
	if !x.Lasts() {
		t.Error("doesn't last though the last registration to go said so")
	}
}

// No service but the two that register looks at APTPL.
func TestOtherServicesLeaveWhetherItLasts(t *testing.T) {
	for _, lasts := range []bool{false, true} {
		for _, o := range []Out{
			{Service: Reserve, Key: keyA, Type: 1},
			{Service: Release, Key: keyA, Type: 1},
			{Service: Clear, Key: keyA},
			{Service: Preempt, Key: keyA, Action: keyA, Type: 1},
			{Service: Abort, Key: keyA, Action: keyA, Type: 1},
		} {
			x := New()
			wantGood(t, x, 0, Out{Service: Ignore, Action: keyA, APTPL: lasts})
			o.APTPL = !lasts
			wantGood(t, x, 0, o)
			if x.Lasts() != lasts {
				t.Errorf("%+v: Lasts = %t", o, x.Lasts())
			}
		}
	}
}

func TestHolderThatLeavesEndsTheReservation(t *testing.T) {
	for _, kind := range []byte{1, 3, 5, 6} {
		for _, o := range []Out{{Service: Register, Key: keyB}, {Service: Ignore}} {
			var events []Event
			if kind >= 5 {
				events = told(api.ResReleased, 1, 7)
			}
			x := three(t, kind)
			wantGood(t, x, 4, o, events...)
			wantReserved(t, x, api.NoType, -1)
			wantRegs(t, x, api.Reg{Nexus: 1, Key: keyA}, api.Reg{Nexus: 7, Key: keyC})
			wantGen(t, x, 4)
		}
	}
}

func TestOthersThatLeaveDontEndTheReservation(t *testing.T) {
	for _, kind := range []byte{1, 3, 5, 6} {
		x := three(t, kind)
		for _, nexus := range []int{1, 7, 0} {
			wantGood(t, x, nexus, Out{Service: Ignore})
		}
		wantReserved(t, x, kind, 4)
		wantHolders(t, x, 4)
	}
}

// The one that reserved holds what all hold as the others do.
func TestLastThatLeavesEndsWhatAllHold(t *testing.T) {
	for _, kind := range []byte{7, 8} {
		x := three(t, kind)
		wantHolders(t, x, 1, 4, 7)
		for _, leaver := range []struct {
			nexus int
			left  []int
		}{{4, []int{1, 7}}, {0, []int{1, 7}}, {7, []int{1}}} {
			wantGood(t, x, leaver.nexus, Out{Service: Ignore})
			wantReserved(t, x, kind, -1)
			wantHolders(t, x, leaver.left...)
		}
		wantGood(t, x, 1, Out{Service: Register, Key: keyA})
		wantReserved(t, x, api.NoType, -1)
		wantGood(t, x, 4, Out{Service: Ignore, Action: keyB})
		wantHolders(t, x)
	}
}

// Who gets another key keeps the reservation.
func TestNewKeyKeepsTheReservation(t *testing.T) {
	for _, kind := range sixTypes() {
		x := three(t, kind)
		ahead, holder := x.Reserved()
		wantGood(t, x, 4, Out{Service: Register, Key: keyB, Action: keyC})
		wantReserved(t, x, ahead, holder)
		if !x.Holds(4) {
			t.Errorf("type %d: the holder holds it no more", kind)
		}
	}
}

func TestServicesNeedTheKey(t *testing.T) {
	for _, kind := range sixTypes() {
		for _, service := range []byte{Reserve, Release, Clear, Preempt, Abort} {
			for _, key := range []uint64{0, keyA, keyC, keyB + 1<<32, math.MaxUint64} {
				refused(t, three(t, kind), 4, Out{Service: service, Key: key, Action: keyA, Type: kind}, api.Conflict, 0)
				refused(t, three(t, kind), 0, Out{Service: service, Key: key, Action: keyA, Type: kind}, api.Conflict, 0)
			}
			// The key goes ahead of the other faults.
			refused(t, three(t, kind), 4, Out{Service: service, Key: keyA, Action: 0, Type: 2}, api.Conflict, 0)
			refused(t, New(), 0, Out{Service: service, Type: kind}, api.Conflict, 0)
		}
	}
}

func TestReserve(t *testing.T) {
	for _, kind := range sixTypes() {
		x := with(t, api.Reg{Nexus: 0, Key: keyA}, api.Reg{Nexus: 6, Key: keyB})
		for _, none := range noTypes() {
			refused(t, x, 6, Out{Service: Reserve, Key: keyB, Type: none}, api.Check, api.InvalidField)
		}
		wantGood(t, x, 6, Out{Service: Reserve, Key: keyB, Type: kind})
		holder, holders := 6, []int{6}
		if kind >= 7 {
			holder, holders = -1, []int{0, 6}
		}
		wantReserved(t, x, kind, holder)
		wantHolders(t, x, holders...)
		wantGen(t, x, 2)
		for _, again := range sixTypes() {
			for nexus, key := range map[int]uint64{0: keyA, 6: keyB} {
				o := Out{Service: Reserve, Key: key, Type: again}
				if again == kind && slices.Contains(holders, nexus) {
					wantGood(t, x, nexus, o)
				} else {
					refused(t, x, nexus, o, api.Conflict, 0)
				}
			}
		}
		for _, none := range noTypes() {
			refused(t, x, 0, Out{Service: Reserve, Key: keyA, Type: none}, api.Check, api.InvalidField)
		}
		wantReserved(t, x, kind, holder)
		wantGen(t, x, 2)
	}
}

func TestRelease(t *testing.T) {
	for _, kind := range sixTypes() {
		x := three(t, kind)
		for other := range 256 {
			if byte(other) != kind {
				refused(t, x, 4, Out{Service: Release, Key: keyB, Type: byte(other)}, api.Check, api.InvalidField)
			}
		}
		var events []Event
		if kind >= 5 {
			events = told(api.ResReleased, 1, 7)
		}
		wantGood(t, x, 4, Out{Service: Release, Key: keyB, Type: kind}, events...)
		wantReserved(t, x, api.NoType, -1)
		wantHolders(t, x)
		wantGen(t, x, 3)
	}
}

func TestReleaseOfWhoDoesntHoldIt(t *testing.T) {
	for _, kind := range []byte{1, 3, 5, 6} {
		x := three(t, kind)
		for other := range 256 {
			ahead := look(x)
			wantGood(t, x, 1, Out{Service: Release, Key: keyA, Type: byte(other)})
			if !look(x).same(ahead) {
				t.Errorf("Release has changed %v to %v", ahead, look(x))
			}
		}
	}
	x := with(t, api.Reg{Nexus: 0, Key: keyA}, api.Reg{Nexus: 1, Key: keyB})
	for _, kind := range []byte{0, 1, 5, 8, 9} {
		wantGood(t, x, 0, Out{Service: Release, Key: keyA, Type: kind})
	}
	wantGen(t, x, 2)
}

func TestReleaseOfWhatAllHold(t *testing.T) {
	for _, kind := range []byte{7, 8} {
		x := three(t, kind)
		refused(t, x, 7, Out{Service: Release, Key: keyC, Type: 15 - kind}, api.Check, api.InvalidField)
		wantGood(t, x, 7, Out{Service: Release, Key: keyC, Type: kind}, told(api.ResReleased, 1, 4)...)
		wantReserved(t, x, api.NoType, -1)
	}
}

func TestClear(t *testing.T) {
	for _, kind := range append(sixTypes(), api.NoType) {
		x := with(t, api.Reg{Nexus: 1, Key: keyA}, api.Reg{Nexus: 4, Key: keyB}, api.Reg{Nexus: 7, Key: keyC})
		if kind != api.NoType {
			x = three(t, kind)
		}
		wantGood(t, x, 1, Out{Service: Clear, Key: keyA, Type: 2}, told(api.ResPreempted, 4, 7)...)
		if !look(x).same(seen{holder: -1, gen: 4}) {
			t.Errorf("behind Clear: %v", look(x))
		}
		wantHolders(t, x)
		refused(t, x, 1, Out{Service: Clear, Key: keyA}, api.Conflict, 0)
	}
}

func TestClearLeavesATableThatLasts(t *testing.T) {
	x := New()
	wantGood(t, x, 1, Out{Service: Ignore, Action: keyA, APTPL: true})
	wantGood(t, x, 1, Out{Service: Clear, Key: keyA})
	if !x.Lasts() || string(x.Save()) != "PR\x00\xff\x00" {
		t.Errorf("Lasts %t, Save %x", x.Lasts(), x.Save())
	}
}

func TestGenerationWrapsRound(t *testing.T) {
	for _, o := range []Out{
		{Service: Ignore, Action: keyA},
		{Service: Register, Key: keyA, Action: keyB},
		{Service: Clear, Key: keyA},
		{Service: Preempt, Key: keyA, Action: keyA},
		{Service: Abort, Key: keyA, Action: keyA},
	} {
		x := with(t, api.Reg{Nexus: 0, Key: keyA})
		x.gen = math.MaxUint32 - 1
		wantGood(t, x, 0, o)
		wantGen(t, x, math.MaxUint32)
		x.gen = math.MaxUint32
		x.keys[0] = keyA
		wantGood(t, x, 0, o)
		wantGen(t, x, 0)
	}
}

// P10.2.

// kept tells by the chapter's table which of Reads and Writes a reservation keeps off from a nexus that doesn't hold it.
func kept(kind byte, registered bool) (reads, writes bool) {
	switch kind {
	case 1:
		return false, true
	case 3:
		return true, true
	case 5, 7:
		return false, !registered
	}
	return !registered, !registered
}

func TestConflict(t *testing.T) {
	for _, kind := range sixTypes() {
		x := three(t, kind)
		for _, nexus := range append(noNexus(), 0, 1, 2, 3, 4, 5, 6, 7) {
			registered := nexus == 1 || nexus == 4 || nexus == 7
			reads, writes := kept(kind, registered)
			if nexus == 4 {
				reads, writes = false, false
			}
			for c := range 256 {
				wanted := writes
				if c == 0 {
					wanted = false
				} else if c == 1 {
					wanted = reads
				}
				if got := x.Conflict(nexus, Class(c)); got != wanted {
					t.Errorf("type %d: Conflict(%d, %d) = %t", kind, nexus, c, got)
				}
			}
		}
	}
}

func TestNoConflictWithoutAReservation(t *testing.T) {
	released := three(t, api.ExclAccess)
	wantGood(t, released, 4, Out{Service: Release, Key: keyB, Type: api.ExclAccess})
	for _, x := range []*Table{New(), released} {
		for _, nexus := range append(noNexus(), 0, 1, 4, 7) {
			for c := range 256 {
				if x.Conflict(nexus, Class(c)) {
					t.Errorf("Conflict(%d, %d)", nexus, c)
				}
			}
		}
	}
}

// P10.3.

func TestRegsAreInTheOrderOfNexuses(t *testing.T) {
	x := New()
	var wanted []api.Reg
	for i := range api.MaxNexus {
		nexus := (5 * i) % api.MaxNexus
		wantGood(t, x, nexus, Out{Service: Register, Action: uint64(100 - nexus)})
		wanted = append(wanted, api.Reg{Nexus: i, Key: uint64(100 - i)})
		wantGen(t, x, uint32(i+1))
	}
	wantRegs(t, x, wanted...)
}

// Nil tables, others that weren't made by New, and memory.

func TestNilTable(t *testing.T) {
	var x *Table
	for _, nexus := range append(noNexus(), 0, 1, 7) {
		for service := range 256 {
			want(t, x, nexus, Out{Service: byte(service), Type: 1, Action: keyA, APTPL: true}, api.Check, api.InvalidField)
		}
		for c := range 256 {
			if x.Conflict(nexus, Class(c)) {
				t.Errorf("Conflict(%d, %d) of a nil table", nexus, c)
			}
		}
	}
	if !look(x).same(seen{holder: -1}) || len(x.Save()) != 0 {
		t.Errorf("a nil table tells %v, %x", look(x), x.Save())
	}
	wantHolders(t, x)
}

func TestTablesThatNewDidntMakeDontPanic(t *testing.T) {
	made := *three(t, api.ExclAll)
	for _, x := range []*Table{{}, &made} {
		for service := range 8 {
			for nexus := range api.MaxNexus {
				for _, kind := range []byte{0, 1, 3, 5, 6, 7, 8} {
					x.Do(nexus, Out{Service: byte(service), Type: kind, Key: keyB, Action: keyA, APTPL: true})
					x.Do(nexus, Out{Service: byte(service), Type: kind, Key: keyA})
					x.Conflict(nexus, Writes)
					look(x)
					x.Save()
				}
			}
		}
	}
}

func TestAnswersAreNewMemory(t *testing.T) {
	x := three(t, api.WriteRegs)
	wantGood(t, x, 1, Out{Service: Register, Key: keyA, Action: keyA, APTPL: true})
	ahead, bytes := look(x), slices.Clone(x.Save())
	for range 2 {
		p := x.Save()
		p = p[:cap(p)]
		for i := range p {
			p[i] = 0xee
		}
		regs := x.Regs()
		regs = regs[:cap(regs)]
		for i := range regs {
			regs[i] = api.Reg{Nexus: 3, Key: 99}
		}
	}
	if !look(x).same(ahead) || !slices.Equal(x.Save(), bytes) {
		t.Errorf("%v became %v", ahead, look(x))
	}
	_, _, events := x.Do(4, Out{Service: Release, Key: keyB, Type: api.WriteRegs})
	if !slices.Equal(events, told(api.ResReleased, 1, 7)) {
		t.Errorf("told %x", events)
	}
	events = events[:cap(events)]
	for i := range events {
		events[i] = Event{}
	}
	wantGood(t, x, 7, Out{Service: Clear, Key: keyC}, told(api.ResPreempted, 1, 4)...)
}

func TestAskingChangesNothing(t *testing.T) {
	for _, kind := range sixTypes() {
		x := three(t, kind)
		wantGood(t, x, 1, Out{Service: Register, Key: keyA, Action: keyA, APTPL: true})
		ahead := *x
		look(x)
		x.Save()
		for _, nexus := range append(noNexus(), 0, 1, 4) {
			x.Holds(nexus)
			x.Conflict(nexus, Free)
			x.Conflict(nexus, Reads)
			x.Conflict(nexus, Writes)
		}
		if *x != ahead {
			t.Errorf("%v became %v", ahead, *x)
		}
	}
}

// Two tables have nothing in common.
func TestTablesAreApart(t *testing.T) {
	x, y := New(), New()
	wantGood(t, x, 0, Out{Service: Ignore, Action: keyA, APTPL: true})
	wantGood(t, x, 0, Out{Service: Reserve, Key: keyA, Type: api.ExclAccess})
	if !look(y).same(seen{holder: -1}) || y.Conflict(1, Writes) {
		t.Errorf("the other table tells %v", look(y))
	}
}
