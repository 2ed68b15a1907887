package unit

import (
	"math/bits"
	"testing"

	"pallet/api"
	"pallet/world"
)

// PRIn.

func TestCapabilities(t *testing.T) {
	_, u := awake(t)
	wanted := mustHex("00 08 01 80 ea 01 00 00")
	cuts(t, u, prIn(2), 7, 2, wanted)
	reserve(t, u, 3, 8, true)
	cuts(t, u, prIn(2), 7, 2, wanted)
}

func TestKeys(t *testing.T) {
	_, u := awake(t)
	cuts(t, u, prIn(0), 7, 2, make([]byte, 8))
	register(t, u, 6, 0x0102030405060708, false)
	register(t, u, 1, 0xfffefdfcfbfaf9f8, false)
	register(t, u, 3, 7, false)
	cuts(t, u, prIn(0), 7, 2, mustHex("00000003 00000018 fffefdfcfbfaf9f8 0000000000000007 0102030405060708"))
	register(t, u, 3, 0, false)
	cuts(t, u, prIn(0), 7, 2, mustHex("00000004 00000010 fffefdfcfbfaf9f8 0102030405060708"))
	for nexus := range 8 {
		register(t, u, nexus, 1, false)
	}
	data := mustHex("0000000c 00000040")
	for range 8 {
		data = append(data, 0, 0, 0, 0, 0, 0, 0, 1)
	}
	cuts(t, u, prIn(0), 7, 2, data)
}

func TestReservation(t *testing.T) {
	_, u := awake(t)
	cuts(t, u, prIn(1), 7, 2, make([]byte, 8))
	register(t, u, 5, 0xa1a2a3a4a5a6a7a8, false)
	register(t, u, 0, 9, false)
	cuts(t, u, prIn(1), 7, 2, mustHex("00000002 00000000"))
	for _, kind := range []byte{1, 3, 5, 6, 7, 8} {
		want(t, u, 5, prOut(1, kind), keys(0xa1a2a3a4a5a6a7a8, 0, false), fine(nil))
		data := mustHex("00000002 00000010 a1a2a3a4a5a6a7a8 00000000 00 00 00 00")
		if kind > 6 {
			data = mustHex("00000002 00000010 0000000000000000 00000000 00 00 00 00")
		}
		data[8+13] = kind
		cuts(t, u, prIn(1), 7, 2, data)
		want(t, u, 5, prOut(2, kind), keys(0xa1a2a3a4a5a6a7a8, 0, false), fine(nil))
		calmAll(u)
		cuts(t, u, prIn(1), 7, 2, mustHex("00000002 00000000"))
	}
}

func TestRegistrations(t *testing.T) {
	_, u := awake(t)
	cuts(t, u, prIn(3), 7, 2, make([]byte, 8))
	register(t, u, 7, 0xa1a2a3a4a5a6a7a8, false)
	register(t, u, 0, 9, false)
	none := mustHex("00000002 00000018 0000000000000009 00 00 00 00 a1a2a3a4a5a6a7a8 00 00 00 07")
	cuts(t, u, prIn(3), 7, 2, none)
	for _, kind := range []byte{1, 3, 5, 6, 7, 8} {
		want(t, u, 7, prOut(1, kind), keys(0xa1a2a3a4a5a6a7a8, 0, false), fine(nil))
		data := with(with(none, 28, 1), 29, kind)
		if kind > 6 {
			data = with(with(data, 16, 1), 17, kind)
		}
		cuts(t, u, prIn(3), 7, 2, data)
		want(t, u, 7, prOut(2, kind), keys(0xa1a2a3a4a5a6a7a8, 0, false), fine(nil))
		calmAll(u)
	}
}

// Whoever asks is told: PRIn is never kept off, and needs no call of the files.
func TestPRInOfAnyone(t *testing.T) {
	w, u := awake(t)
	reserve(t, u, 2, 3, false)
	for nexus := range 8 {
		want(t, u, nexus, prIn(0), nil, fine(mustHex("00000001 00000008 0000000000000003")))
		want(t, u, nexus, prIn(1), fill(1, 5), fine(mustHex("00000001 00000010 0000000000000003 0000000000 03 0000")))
	}
	wantCalls(t, w, 0)
}

// PROut.

// Alloc and what comes must both be 24 bytes; nothing happens else.
func TestPROutLengths(t *testing.T) {
	w, u := awake(t)
	for _, service := range []byte{0, 6} {
		for _, alloc := range []uint32{0, 1, 23, 24, 25, 256, 24 << 8, 24 << 16, 24 << 24, 0x18181818, 1<<32 - 1} {
			cmd := prOut(service, 0)
			for i := range 4 {
				cmd[5+i] = byte(alloc >> (24 - 8*i))
			}
			for n := range 50 {
				if alloc == 24 && n == 24 {
					continue
				}
				p := append(keys(0, 1, true), make([]byte, 30)...)[:n]
				want(t, u, 0, cmd, p, badLength)
			}
		}
	}
	// It is told ahead of bits that must be 0, and of a wrong key.
	want(t, u, 0, prOut(1, 0), fill(0xff, 23), badLength)
	want(t, u, 0, prOut(1, 0), fill(0xff, 25), badLength)
	wantCalls(t, w, 0)
	wantTable(t, u, 0, -1)
	want(t, u, 0, prIn(0), nil, fine(make([]byte, 8)))
}

func TestPROutBitsThatMustBeZero(t *testing.T) {
	w, u := awake(t)
	for at := 16; at < 24; at++ {
		for b := 1; b < 256; b++ {
			idle := byte(b)
			if at == 20 {
				idle &^= 1
			}
			if idle == 0 {
				continue
			}
			wanted := inField(0x2600, at, bits.Len8(idle)-1, false)
			for _, service := range []byte{0, 1, 6} {
				want(t, u, 0, prOut(service, 0), with(keys(0, 1, false), at, byte(b)), wanted)
			}
			// The first byte is told, whatever follows.
			for later := at + 1; later < 24; later++ {
				want(t, u, 0, prOut(6, 0), with(with(keys(0, 1, true), at, byte(b)), later, 0xfe), wanted)
			}
		}
	}
	wantCalls(t, w, 0)
	wantTable(t, u, 0, -1)
	// Every bit of both keys may be 1.
	want(t, u, 0, prOut(6, 0), append(fill(0xff, 16), 0, 0, 0, 0, 1, 0, 0, 0), fine(nil))
	wantTable(t, u, 0, -1, api.Reg{Nexus: 0, Key: 1<<64 - 1})
}

func TestPROutKeys(t *testing.T) {
	_, u := awake(t)
	want(t, u, 2, prOut(0, 0), mustHex("0000000000000000 0102030405060708 00000000 00 000000"), fine(nil))
	wantTable(t, u, 0, -1, api.Reg{Nexus: 2, Key: 0x0102030405060708})
	want(t, u, 2, prOut(0, 0), mustHex("0102030405060708 1112131415161718 00000000 00 000000"), fine(nil))
	wantTable(t, u, 0, -1, api.Reg{Nexus: 2, Key: 0x1112131415161718})
	for at := range 8 {
		p := with(mustHex("1112131415161718 0000000000000000 00000000 00 000000"), at, 0xff)
		want(t, u, 2, prOut(0, 0), p, conflicts)
		want(t, u, 2, prOut(1, 1), p, conflicts)
	}
	wantTable(t, u, 0, -1, api.Reg{Nexus: 2, Key: 0x1112131415161718})
}

// What pr.Do answers that isn't Good is the answer, and nothing is kept, nobody is told.
func TestPROutRefused(t *testing.T) {
	w, u := awake(t)
	reserve(t, u, 0, 1, true)
	register(t, u, 1, 2, true)
	was := kept(t, w, "s")
	for _, x := range []struct {
		nexus         int
		service, kind byte
		key, action   uint64
		wanted        api.Result
	}{
		{1, 0, 0, 9, 3, conflicts},
		{3, 1, 1, 0, 0, conflicts},
		{1, 1, 1, 2, 0, conflicts},
		{1, 3, 0, 9, 0, conflicts},
		{1, 4, 1, 2, 77, conflicts},
		{1, 1, 2, 2, 0, wrong(5, 0x2400)},
		{1, 1, 15, 2, 0, wrong(5, 0x2400)},
		{0, 2, 3, 1, 0, wrong(5, 0x2400)},
		{1, 4, 1, 2, 0, wrong(5, 0x2600)},
		{1, 5, 0, 2, 1, wrong(5, 0x2400)},
	} {
		want(t, u, x.nexus, prOut(x.service, x.kind), keys(x.key, x.action, true), x.wanted)
		want(t, u, x.nexus, prOut(x.service, x.kind), keys(x.key, x.action, false), x.wanted)
	}
	wantCalls(t, w, 0)
	if kept(t, w, "s") != was {
		t.Error("what is kept has changed")
	}
	for _, nexus := range []int{0, 1, 2, 3} {
		wantWaiting(t, u, nexus)
	}
	wantTable(t, u, 1, 0, api.Reg{Nexus: 0, Key: 1}, api.Reg{Nexus: 1, Key: 2})
}

// Whom a service touches is told, in order, at the next command that waits for that.
func TestPROutTellsOthers(t *testing.T) {
	_, u := awake(t)
	reserve(t, u, 0, 5, false)
	register(t, u, 1, 2, false)
	register(t, u, 2, 2, false)
	register(t, u, 3, 4, false)
	u.attns.Add(3, 0x2a01)
	// The holder's registration goes: the reservation ends.
	register(t, u, 0, 0, false)
	wantWaiting(t, u, 0)
	wantWaiting(t, u, 1, 0x2a04)
	wantWaiting(t, u, 2, 0x2a04)
	wantWaiting(t, u, 3, 0x2a04, 0x2a01)
	want(t, u, 3, prOut(1, 6), keys(4, 0, false), fine(nil))
	// Preempted: those of the key 2 are told so.
	want(t, u, 3, prOut(5, 6), keys(4, 2, false), fine(nil))
	u.attns.Add(1, 0x2a01)
	want(t, u, 1, ready, nil, attention(0x2a05))
	want(t, u, 1, ready, nil, attention(0x2a01))
	want(t, u, 1, ready, nil, conflicts)
	register(t, u, 1, 2, false)
	register(t, u, 4, 5, false)
	want(t, u, 1, prOut(4, 7), keys(2, 4, false), fine(nil))
	// 3 was preempted, 2 has nothing; 4, that is registered still, is told that the type is another one.
	want(t, u, 3, ready, nil, attention(0x2a05))
	want(t, u, 3, ready, nil, fine(nil))
	want(t, u, 2, ready, nil, attention(0x2a05))
	want(t, u, 4, ready, nil, attention(0x2a04))
	wantTable(t, u, 7, -1, api.Reg{Nexus: 1, Key: 2}, api.Reg{Nexus: 4, Key: 5})
	// Cleared.
	want(t, u, 4, prOut(3, 0), keys(5, 0, false), fine(nil))
	wantWaiting(t, u, 1, 0x2a03)
	wantWaiting(t, u, 4)
	wantTable(t, u, 0, -1)
}

// The table is kept while it lasts, and once more when it lasts no more.
func TestPROutKeeps(t *testing.T) {
	w, u := awake(t)
	step := func(nexus int, cmd, out []byte, calls int, wanted string) {
		t.Helper()
		w.Plan(nil, -1)
		want(t, u, nexus, cmd, out, fine(nil))
		wantCalls(t, w, calls)
		if w.Waits() != 0 {
			t.Fatalf("%d changes wait", w.Waits())
		}
		wantKept(t, w, wanted)
		w.Crash(0, 0)
		wantKept(t, w, wanted)
	}
	zero := "\x00\x00\x00\x00\x00\x00\x00"
	step(0, prOut(6, 0), keys(0, 1, false), 0, "none")
	step(0, prOut(1, 3), keys(1, 0, false), 0, "none")
	// APTPL of a service that isn't Register or Ignore says nothing.
	step(0, prOut(2, 3), keys(1, 0, true), 0, "none")
	step(0, prOut(1, 3), keys(1, 0, true), 0, "none")
	step(0, prOut(0, 0), keys(1, 1, true), 2, "\x01PR\x03\x00\x01\x00"+zero+"\x01")
	step(1, prOut(6, 0), keys(0, 2, true), 2, "\x01PR\x03\x00\x02\x00"+zero+"\x01\x01"+zero+"\x02")
	step(0, prOut(2, 3), keys(1, 0, false), 2, "\x01PR\x00\xff\x02\x00"+zero+"\x01\x01"+zero+"\x02")
	// Also where nothing has changed.
	step(0, prOut(2, 3), keys(1, 0, false), 2, "\x01PR\x00\xff\x02\x00"+zero+"\x01\x01"+zero+"\x02")
	step(1, prOut(1, 7), keys(2, 0, false), 2, "\x01PR\x07\xff\x02\x00"+zero+"\x01\x01"+zero+"\x02")
	step(0, prOut(4, 1), keys(1, 0, false), 2, "\x01PR\x01\x00\x01\x00"+zero+"\x01")
	step(0, prOut(3, 0), keys(1, 0, false), 2, "\x01PR\x00\xff\x00")
	calmAll(u)
	step(2, prOut(0, 0), keys(0, 5, false), 2, "\x01")
	step(2, prOut(1, 1), keys(5, 0, false), 0, "\x01")
	step(2, prOut(0, 0), keys(5, 0, false), 0, "\x01")
}

// Where it can't be kept, all else stays done.
func TestPROutThatIsNotKept(t *testing.T) {
	for at := range 2 {
		for _, stop := range []bool{false, true} {
			w, u := awake(t)
			reserve(t, u, 0, 5, true)
			register(t, u, 1, 2, true)
			plan := func() {
				if stop {
					w.Plan(nil, at)
				} else {
					w.Plan([]int{at}, -1)
				}
			}
			plan()
			want(t, u, 0, prOut(2, 5), keys(1, 0, false), badWrite)
			wantCalls(t, w, at+1)
			wantTable(t, u, 0, -1, api.Reg{Nexus: 0, Key: 1}, api.Reg{Nexus: 1, Key: 2})
			if stop {
				w.Crash(0, 0)
			}
			w.Plan(nil, -1)
			wantWaiting(t, u, 1, 0x2a04)
			wantWaiting(t, u, 0)
			want(t, u, 0, prIn(1), nil, fine(mustHex("00000002 00000000")))
			// What is kept next reads the slots anew, and has all of it.
			want(t, u, 1, prOut(1, 1), keys(2, 0, false), fine(nil))
			wantCalls(t, w, 4)
			w.Crash(0, 0)
			wantTable(t, wake(t, w, newUnit(t, w, "s")), 1, 1, api.Reg{Nexus: 0, Key: 1}, api.Reg{Nexus: 1, Key: 2})
		}
	}
}

// A table that lasts no more, but whose slot couldn't be written, is no table that lasts: the next change isn't kept.
func TestPROutLastsNoMoreUnkept(t *testing.T) {
	w, u := awake(t)
	register(t, u, 0, 1, true)
	w.Plan([]int{0}, -1)
	want(t, u, 0, prOut(6, 0), keys(0, 2, false), badWrite)
	w.Plan(nil, -1)
	register(t, u, 0, 3, false)
	wantCalls(t, w, 0)
	wantTable(t, u, 0, -1, api.Reg{Nexus: 0, Key: 3})
	w.Crash(0, 0)
	wantTable(t, wake(t, w, newUnit(t, w, "s")), 0, -1, api.Reg{Nexus: 0, Key: 1})
}

// A table that doesn't last is gone with the power.
func TestReservationsThatDontLast(t *testing.T) {
	w, u := awake(t)
	reserve(t, u, 0, 3, false)
	w.Crash(w.Waits(), 0)
	u = wake(t, w, newUnit(t, w, "s"))
	wantTable(t, u, 0, -1)
	want(t, u, 1, write0, fill(1, 16), fine(nil))
	// A unit that is made anew without a loss of power knows no more.
	reserve(t, u, 0, 3, false)
	wantTable(t, wake(t, w, newUnit(t, w, "s")), 0, -1)
}

// The Service and the Type of the command are those of the table's service.
func TestPROutServicesAndTypes(t *testing.T) {
	for kind := range byte(16) {
		_, u := awake(t)
		register(t, u, 0, 1, false)
		wanted, isType := wrong(5, 0x2400), kind == 1 || kind == 3 || kind >= 5 && kind <= 8
		if isType {
			wanted = fine(nil)
		}
		want(t, u, 0, prOut(1, kind), keys(1, 0, false), wanted)
		switch {
		case kind == 7 || kind == 8:
			wantTable(t, u, kind, -1, api.Reg{Nexus: 0, Key: 1})
		case isType:
			wantTable(t, u, kind, 0, api.Reg{Nexus: 0, Key: 1})
		default:
			wantTable(t, u, 0, -1, api.Reg{Nexus: 0, Key: 1})
		}
	}
	u := newUnit(t, world.New(), "s")
	calmAll(u)
	want(t, u, 0, prOut(7, 0), keys(0, 1, false), inField(0x2400, 1, 4, true))
}
