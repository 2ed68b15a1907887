package unit

import (
	"slices"
	"testing"

	"pallet/api"
	"pallet/world"
	"pallet/xcopy"
)

// xcopySeg copies the block 0 from a unit's place to another one's, as its block 1.
func xcopySeg(from, to int) xcopy.Seg { return xcopy.Seg{From: from, To: to, Blocks: 1, Dst: 1} }

// doCopy has a nexus copy segments among the units with these serials.
func doCopy(t *testing.T, u *Unit, nexus int, wanted api.Result, serials []string, segs ...xcopy.Seg) {
	t.Helper()
	p := segments(serials, segs...)
	want(t, u, nexus, copyCmd(len(p)), p, wanted)
}

func aborted(code uint16, n uint64) api.Result { return wrongAt(0xa, code, n) }

// three tells units a, b and c of 4 blocks each, filled with 1, 2 and 3, in one world; b and c are peers of a.
func three(t *testing.T) (*world.World, *Unit, *Unit, *Unit) {
	t.Helper()
	w := world.New()
	var list []*Unit
	for i, serial := range []string{"a", "b", "c"} {
		u := wake(t, w, newUnit(t, w, serial))
		want(t, u, 0, mustHex("41 00 00000000 00 0000 00"), fill(byte(i+1), 16), fine(nil))
		list = append(list, u)
	}
	list[0].Peers(list[1:])
	w.Plan(nil, -1)
	return w, list[0], list[1], list[2]
}

func TestCopy(t *testing.T) {
	w, a, b, c := three(t)
	doCopy(t, a, 0, fine(nil), []string{"c", "a", "b"},
		xcopy.Seg{From: 0, To: 1, Blocks: 2, Src: 1, Dst: 2}, xcopy.Seg{From: 2, To: 0, Blocks: 1, Src: 3, Dst: 0}, xcopySeg(0, 2))
	wantBlocks(t, a, 0, 1, 1, 3, 3)
	wantBlocks(t, b, 0, 2, 2, 2, 2)
	wantBlocks(t, c, 0, 2, 3, 3, 3)
	doCopy(t, a, 0, fine(nil), []string{"a"}, xcopy.Seg{Blocks: 3, Src: 1, Dst: 0})
	wantBlocks(t, a, 0, 1, 3, 3, 3)
	// What is told of a copy isn't counted by its peers, and nobody is told of anything.
	count := b.Count()
	doCopy(t, a, 0, fine(nil), []string{"a", "b"}, xcopySeg(0, 1))
	if b.Count() != count {
		t.Errorf("the peer has counted %d commands", b.Count()-count)
	}
	for nexus := range 8 {
		wantWaiting(t, b, nexus)
	}
	if w.Waits() == 0 {
		t.Error("the units have no cache")
	}
}

func TestCopyOfNothing(t *testing.T) {
	w, a, _, _ := three(t)
	want(t, a, 0, copyCmd(0), nil, fine(nil))
	want(t, a, 0, copyCmd(16), make([]byte, 16), fine(nil))
	doCopy(t, a, 0, fine(nil), []string{"x", "y"})
	wantCalls(t, w, 0)
}

func TestCopyLengths(t *testing.T) {
	w, a, _, _ := three(t)
	p := segments([]string{"a", "b"}, xcopySeg(0, 1))
	for _, n := range []int{0, 1, 16, len(p) - 1, len(p) + 1, len(p) + 256, 1<<32 - 1} {
		want(t, a, 0, copyCmd(n), p, badLength)
	}
	want(t, a, 0, copyCmd(len(p)), nil, badLength)
	want(t, a, 0, copyCmd(len(p)), p[:len(p)-1], badLength)
	want(t, a, 0, copyCmd(len(p)), append(p, 0), badLength)
	want(t, a, 0, copyCmd(1), fill(0xff, 2), badLength)
	wantCalls(t, w, 0)
}

func TestCopyRefused(t *testing.T) {
	w, a, b, _ := three(t)
	p := segments([]string{"a", "b"}, xcopySeg(0, 1))
	fresh := newUnit(t, w, "fresh")
	a.Peers([]*Unit{b, fresh})
	for at := range p {
		for _, x := range []byte{0x01, 0x80, 0xff} {
			bad := with(p, at, p[at]^x)
			if _, why, ok := xcopy.Parse(bad); !ok {
				want(t, a, 0, copyCmd(len(bad)), bad, api.Result{Status: 2, Sense: why})
			}
		}
	}
	for n := 1; n < len(p); n++ {
		_, why, _ := xcopy.Parse(p[:n])
		want(t, a, 0, copyCmd(n), p[:n], api.Result{Status: 2, Sense: why})
	}
	want(t, a, 0, copyCmd(len(p)), with(p, 0, 1), inField(0x2600, 0, -1, false))
	many := make([]xcopy.Seg, 8)
	long := segments([]string{"a"}, many...)
	long = append(with(long, 11, byte(9*28)), long[len(long)-28:]...)
	want(t, a, 0, copyCmd(len(long)), long, wrong(5, 0x2608))
	// No peer was started by these.
	wantCalls(t, w, 0)
	wantBlocks(t, b, 0, 2, 2, 2, 2)
}

func TestCopyAborts(t *testing.T) {
	_, a, b, c := three(t)
	serials := []string{"a", "b", "c", "x"}
	doCopy(t, a, 0, aborted(0x0d02, 0), serials, xcopySeg(0, 3))
	doCopy(t, a, 0, aborted(0x0d02, 0), serials, xcopySeg(3, 0))
	doCopy(t, a, 0, aborted(0x0d02, 1), serials, xcopySeg(0, 1), xcopySeg(3, 2), xcopySeg(0, 2))
	wantBlocks(t, b, 0, 2, 1, 2, 2)
	wantBlocks(t, c, 0, 3, 3, 3, 3)
	doCopy(t, a, 0, aborted(0x2100, 2), serials, xcopySeg(2, 0), xcopySeg(2, 1), xcopy.Seg{From: 0, To: 1, Blocks: 2, Src: 3})
	wantBlocks(t, a, 0, 1, 3, 1, 1)
	wantBlocks(t, b, 0, 2, 3, 2, 2)
	// Serials are told apart by every character.
	for _, serial := range []string{"A", "ab", "", "a b"} {
		doCopy(t, a, 0, aborted(0x0d02, 0), []string{serial, "b"}, xcopySeg(0, 1))
	}
}

// Files that fail within a copy: it ends there, with the code of what failed.
func TestCopyOfFilesThatFail(t *testing.T) {
	for at, code := range []uint16{0x1100, 0x0c00, 0x1100, 0x0c00} {
		w, a, b, _ := three(t)
		w.Plan([]int{at}, -1)
		doCopy(t, a, 0, aborted(code, uint64(at/2)), []string{"a", "b"}, xcopySeg(0, 1), xcopy.Seg{To: 1, Blocks: 1, Dst: 2})
		w.Plan(nil, -1)
		wantBlocks(t, b, 0, [][]byte{{2, 2, 2, 2}, {2, 2, 2, 2}, {2, 1, 2, 2}, {2, 1, 2, 2}}[at]...)
	}
}

// Peers.

// reaches tells which of the units with these serials a copy of the unit reaches.
func reaches(u *Unit, serials ...string) []string {
	var out []string
	for _, serial := range serials {
		p := segments([]string{serial}, xcopy.Seg{})
		if r := u.Do(0, copyCmd(len(p)), p); r.Status == 0 {
			out = append(out, serial)
		}
	}
	return out
}

func wantReach(t *testing.T, u *Unit, wanted ...string) {
	t.Helper()
	if got := reaches(u, "a", "b", "c", "d"); !slices.Equal(got, wanted) {
		t.Fatalf("copies reach %q; want %q", got, wanted)
	}
}

func TestPeers(t *testing.T) {
	w, a, b, c := three(t)
	wantReach(t, a, "a", "b", "c")
	// Peers have no peers by that.
	wantReach(t, b, "b")
	wantReach(t, c, "c")
	b.Peers([]*Unit{a})
	wantReach(t, b, "a", "b")
	// The last ones that were told are the peers.
	a.Peers([]*Unit{c})
	wantReach(t, a, "a", "c")
	a.Peers(nil)
	wantReach(t, a, "a")
	a.Peers([]*Unit{nil, a, nil, b, a, nil})
	wantReach(t, a, "a", "b")
	a.Peers([]*Unit{nil})
	wantReach(t, a, "a")
	a.Peers([]*Unit{c, c, c})
	wantReach(t, a, "a", "c")
	d := newUnit(t, w, "d")
	a.Peers([]*Unit{b, c, d})
	wantReach(t, a, "a", "b", "c", "d")
	if a.Count() == 0 || d.Count() != 0 {
		t.Errorf("Count = %d, of the peer %d", a.Count(), d.Count())
	}
}

// The list of peers may be written over behind the call.
func TestPeersAreNotKept(t *testing.T) {
	_, a, b, c := three(t)
	list := []*Unit{nil, b, a, b, nil}
	before := slices.Clone(list)
	a.Peers(list[:3])
	if !slices.Equal(list, before) {
		t.Error("Peers has changed its list")
	}
	for i := range list {
		list[i] = c
	}
	wantReach(t, a, "a", "b")
}

// Of several units with one serial the first one counts: this one, then the peers in their order.
func TestTheFirstWithASerial(t *testing.T) {
	w, a, b, _ := three(t)
	like := func(serial string, filled byte) *Unit {
		u := wake(t, w, makeUnit(t, w, "x"+string(filled), config(serial, 4)))
		want(t, u, 0, write0, fill(filled, 16), fine(nil))
		return u
	}
	likeA, likeB := like("a", 8), like("b", 9)
	a.Peers([]*Unit{likeA, b, likeB})
	doCopy(t, a, 0, fine(nil), []string{"a", "b"}, xcopySeg(0, 1))
	wantBlocks(t, b, 0, 2, 1)
	wantBlocks(t, likeB, 0, 9, 0)
	a.Peers([]*Unit{likeA, likeB, b})
	doCopy(t, a, 0, fine(nil), []string{"b", "a"}, xcopySeg(0, 1))
	wantBlocks(t, a, 0, 1, 9)
	wantBlocks(t, likeA, 0, 8, 0)
	// A unit that is shut hides those behind it.
	setValues(t, likeB, 0, 5, false)
	doCopy(t, a, 0, aborted(0x0d02, 0), []string{"a", "b"}, xcopySeg(0, 1))
	// One with a fault doesn't.
	w.Plan([]int{0}, -1)
	broken := makeUnit(t, w, "broken", config("b", 4))
	wantStart(t, broken, api.ErrIO)
	a.Peers([]*Unit{broken, b})
	doCopy(t, a, 0, fine(nil), []string{"a", "b"}, xcopySeg(0, 1))
	wantBlocks(t, b, 0, 2, 1)
}

// A copy starts its peers, in order, once its list is right; those with a fault are none.
func TestCopyStartsPeers(t *testing.T) {
	w, a, b, _ := three(t)
	d, e := newUnit(t, w, "d"), newUnit(t, w, "e")
	a.Peers([]*Unit{d, b, e})
	w.Plan(nil, -1)
	want(t, a, 0, copyCmd(0), nil, fine(nil))
	wantCalls(t, w, 4)
	want(t, a, 0, copyCmd(0), nil, fine(nil))
	wantCalls(t, w, 4)
	// Nobody has told the peers' nexuses that the power came on: that waits for a command of theirs.
	for nexus := range 8 {
		wantWaiting(t, d, nexus, 0x2900)
	}
	doCopy(t, a, 0, fine(nil), []string{"a", "e"}, xcopySeg(0, 1))
	for at := range 4 {
		d, e = newUnit(t, w, "d"), newUnit(t, w, "e")
		a.Peers([]*Unit{d, b, e})
		w.Plan([]int{at}, -1)
		serials := []string{"a", "b", "d", "e"}
		wanted := []api.Result{fine(nil), fine(nil)}
		wanted[at/2] = aborted(0x0d02, 0)
		doCopy(t, a, 0, wanted[0], serials, xcopySeg(0, 2))
		doCopy(t, a, 0, wanted[1], serials, xcopySeg(0, 3))
		doCopy(t, a, 0, fine(nil), serials, xcopySeg(0, 1))
		faults := []api.Errno{api.OK, api.OK}
		faults[at/2] = api.ErrIO
		wantStart(t, d, faults[0])
		wantStart(t, e, faults[1])
	}
	// What was kept of a peer is known to the copy that starts it.
	for b := range byte(8) {
		w, a, _, _ := three(t)
		laySlot(t, w, "d", []byte{b})
		a.Peers([]*Unit{newUnit(t, w, "d")})
		wanted := fine(nil)
		if b&4 != 0 {
			wanted = aborted(0x0d02, 0)
		}
		doCopy(t, a, 0, wanted, []string{"a", "d"}, xcopySeg(0, 1))
		if b&4 == 0 && (w.Waits() == 0) != (b&1 == 0) {
			t.Errorf("values %d: %d changes wait", b, w.Waits())
		}
	}
}

// A peer with a fault isn't there.
func TestCopyToPeersWithAFault(t *testing.T) {
	for _, payload := range badPayloads() {
		w, a, _, c := three(t)
		laySlot(t, w, "d", []byte(payload))
		a.Peers([]*Unit{newUnit(t, w, "d"), c})
		for _, x := range []xcopy.Seg{xcopySeg(0, 1), xcopySeg(1, 0)} {
			doCopy(t, a, 0, aborted(0x0d02, 0), []string{"a", "d"}, x)
		}
		doCopy(t, a, 0, fine(nil), []string{"a", "c"}, xcopySeg(0, 1))
	}
}

// Peers that are reserved, or protected from writes.

func TestCopyAndReservationsOfPeers(t *testing.T) {
	for _, kind := range []byte{0, 1, 3, 5, 6, 7, 8} {
		for _, registered := range []bool{false, true} {
			for _, swp := range []bool{false, true} {
				w, a, b, _ := three(t)
				if swp {
					setValues(t, b, 0, 5, false)
					calmAll(b)
				}
				if kind != 0 {
					reserve(t, b, 6, kind, false)
				}
				if registered {
					register(t, b, 2, 9, false)
				}
				member := registered && kind >= 5
				mayRead := kind == 0 || member || kind == 1 || kind == 5 || kind == 7
				mayWrite := (kind == 0 || member) && !swp
				for _, x := range []struct {
					seg xcopy.Seg
					may bool
				}{
					{xcopySeg(1, 0), mayRead}, {xcopySeg(0, 1), mayWrite}, {xcopySeg(1, 1), mayRead && mayWrite}, {xcopySeg(0, 0), true},
				} {
					before := files(w)
					wanted := fine(nil)
					if !x.may {
						wanted = aborted(0x0d02, 0)
					}
					doCopy(t, a, 2, wanted, []string{"a", "b"}, x.seg)
					if !x.may && files(w) != before {
						t.Fatal("a copy that was kept off has changed the files")
					}
				}
				// The holder of the peer's reservation.
				if !swp {
					doCopy(t, a, 6, fine(nil), []string{"a", "b"}, xcopySeg(0, 1), xcopySeg(1, 0))
				}
			}
		}
	}
}

// The unit itself: who may write it may copy, but SWP shuts it for what is written.
func TestCopyAndTheUnitItself(t *testing.T) {
	_, a, b, _ := three(t)
	setValues(t, a, 0, 5, false)
	calmAll(a)
	serials := []string{"a", "b"}
	doCopy(t, a, 1, aborted(0x0d02, 0), serials, xcopySeg(1, 0))
	doCopy(t, a, 1, aborted(0x0d02, 0), serials, xcopySeg(0, 0))
	doCopy(t, a, 1, fine(nil), serials, xcopySeg(0, 1))
	wantBlocks(t, a, 1, 1, 1)
	wantBlocks(t, b, 1, 2, 1)
	setValues(t, a, 0, 1, false)
	calmAll(a)
	for _, kind := range []byte{1, 3, 5, 6, 7, 8} {
		reserve(t, a, 3, kind, false)
		doCopy(t, a, 1, conflicts, serials, xcopySeg(0, 1))
		doCopy(t, a, 1, conflicts, serials)
		doCopy(t, a, 3, fine(nil), serials, xcopySeg(1, 0))
		register(t, a, 1, 4, false)
		if kind >= 5 {
			doCopy(t, a, 1, fine(nil), serials, xcopySeg(1, 0), xcopySeg(0, 0))
		} else {
			doCopy(t, a, 1, conflicts, serials, xcopySeg(1, 0))
		}
		register(t, a, 1, 0, false)
		want(t, a, 3, prOut(2, kind), keys(4, 0, false), fine(nil))
		calmAll(a)
	}
	// A segment that may not be read, behind one that may be.
	reserve(t, b, 3, 3, false)
	doCopy(t, a, 1, aborted(0x0d02, 1), serials, xcopySeg(0, 0), xcopySeg(1, 0), xcopySeg(0, 0))
}

// A copy among units with other kinds of protection: each block gets its tuple where it goes.
func TestCopyAndProtection(t *testing.T) {
	for from := range byte(4) {
		for to := range byte(4) {
			w := world.New()
			list := make([]*Unit, 2)
			for i, prot := range []byte{from, to} {
				c := config([]string{"a", "b"}[i], 4)
				c.Info.Prot = prot
				list[i] = wake(t, w, makeUnit(t, w, c.Info.Serial, c))
			}
			list[0].Peers(list[1:])
			want(t, list[0], 0, write0, fill(0, 16), fine(nil))
			doCopy(t, list[0], 0, fine(nil), []string{"a", "b"}, xcopySeg(0, 1))
			ref := byte(0)
			if to == 1 || to == 2 {
				ref = 1
			}
			if to > 0 {
				data := append(make([]byte, 16), 0, 0, 0, 0, 0, 0, 0, ref)
				want(t, list[1], 0, mustHex("28 20 00000001 00 0001 00"), nil, fine(data))
			}
		}
	}
}

// Peers in worlds of their own.
func TestCopyAcrossWorlds(t *testing.T) {
	w, a, _, _ := three(t)
	other := world.New()
	d := wake(t, other, newUnit(t, other, "d"))
	a.Peers([]*Unit{d})
	doCopy(t, a, 0, fine(nil), []string{"a", "d"}, xcopySeg(0, 1))
	wantCalls(t, w, 1)
	wantCalls(t, other, 1)
	wantBlocks(t, d, 0, 0, 1)
}
