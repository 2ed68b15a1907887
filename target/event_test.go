package target

import (
	"bytes"
	"math"
	"slices"
	"testing"

	"pallet/api"
	"pallet/world"
)

// P22.2 and P22.3: events, and what a target tells.

func wantDo(t *testing.T, x *Target, e Event, wanted api.Errno) {
	t.Helper()
	if got := x.Do(e); got != wanted {
		t.Errorf("Do(%v) = %d; want %d", e, got, wanted)
	}
}

// noNumbers are numbers that no connection has.
var noNumbers = []int{math.MinInt, -8, -1, 8, 9, 255, 256, math.MaxInt}

func TestEventsOfNoKind(t *testing.T) {
	r := twoIn(t)
	r.send(0, plainTask(0, 1, 1))
	for kind := range 256 {
		if kind >= 1 && kind <= 5 {
			continue
		}
		for _, n := range append(noNumbers, 0, 1, 2) {
			wantDo(t, r.Target, Event{Kind: byte(kind), Conn: n, Data: r.bytesOf(0, logout(1)), Pick: kind - 3}, api.ErrArg)
		}
	}
	r.wantNexus(0, 1)
	r.wantReady(1)
}

func TestConnectionsThatAreNone(t *testing.T) {
	r := twoIn(t)
	for _, n := range noNumbers {
		for _, kind := range []byte{Connect, Bytes, Drop} {
			wantDo(t, r.Target, Event{Kind: kind, Conn: n, Data: fill(0, 48)}, api.ErrArg)
		}
		if len(r.Out(n)) != 0 || r.Nexus(n) != -1 {
			t.Errorf("of the connection %d: %x, %d", n, r.Out(n), r.Nexus(n))
		}
	}
	r.wantNexus(0, 1)
}

func TestConnect(t *testing.T) {
	r := newRig(t, usual())
	for n := range 8 {
		wantDo(t, r.Target, Event{Kind: Bytes, Conn: n}, api.ErrNone)
		wantDo(t, r.Target, Event{Kind: Drop, Conn: n}, api.ErrNone)
		wantDo(t, r.Target, Event{Kind: Connect, Conn: n, Data: fill(0xff, 100), Pick: -1, Cut: -1}, api.OK)
		wantDo(t, r.Target, Event{Kind: Connect, Conn: n}, api.ErrExists)
		wantDo(t, r.Target, Event{Kind: Bytes, Conn: n, Pick: -1, Cut: -1}, api.OK)
	}
	for n := range 8 {
		wantDo(t, r.Target, Event{Kind: Drop, Conn: n, Data: fill(0xff, 100), Pick: -1, Cut: -1}, api.OK)
		wantDo(t, r.Target, Event{Kind: Drop, Conn: n}, api.ErrNone)
		wantDo(t, r.Target, Event{Kind: Bytes, Conn: n, Data: []byte{1}}, api.ErrNone)
		wantDo(t, r.Target, Event{Kind: Connect, Conn: n}, api.OK)
	}
	// That one is there changes nothing of what it had.
	r.send(2, loginReq(0x04, asInitiator("i")...))
	before := r.Out(2)
	wantDo(t, r.Target, Event{Kind: Connect, Conn: 2}, api.ErrExists)
	if !bytes.Equal(r.Out(2), before) || len(before) == 0 {
		t.Errorf("a second Connect has changed what went out: %x", r.Out(2))
	}
	r.send(2, loginReq(0x87))
	r.wantNexus(-1, -1, 0)
}

// A connection begins anew with its Connect: neither bytes that waited nor what went out are left.
func TestConnectAnew(t *testing.T) {
	r := newRig(t, usual())
	r.connect(0)
	r.do(Event{Kind: Bytes, Data: fill(0xff, 47)})
	r.do(Event{Kind: Drop})
	r.logIn(0, "i")
	if len(r.Out(0)) != 48 {
		t.Errorf("%x went out", r.Out(0))
	}
	r.do(Event{Kind: Drop})
	r.connect(0)
	if len(r.Out(0)) != 0 || r.Nexus(0) != -1 {
		t.Errorf("of a new connection: %x, %d", r.Out(0), r.Nexus(0))
	}
}

func TestNil(t *testing.T) {
	var x *Target
	for kind := range 256 {
		for _, n := range append(noNumbers, 0) {
			wantDo(t, x, Event{Kind: byte(kind), Conn: n, Pick: n, Data: fill(0, 48)}, api.ErrNone)
		}
	}
	for _, n := range append(noNumbers, 0, 7) {
		if len(x.Out(n)) != 0 || x.Nexus(n) != -1 || x.Unit(n) != nil {
			t.Errorf("a nil target tells of %d: %x, %d, %v", n, x.Out(n), x.Nexus(n), x.Unit(n))
		}
	}
	if x.Ready() != 0 {
		t.Errorf("Ready() = %d", x.Ready())
	}
}

// P1: of a zero value, and of a copy, nothing is promised but that each call ends.
func TestZeroValueEnds(t *testing.T) {
	var x Target
	p := append((&rig{t: t}).bytesOf(0, loginReq(0x87, asInitiator("i")...)), fill(0, 48)...)
	for kind := range 8 {
		for _, n := range append(noNumbers, 0, 1) {
			for _, kindAhead := range []byte{Connect, Bytes, Step, Crash} {
				x.Do(Event{Kind: kindAhead, Conn: n, Data: p, Pick: n})
				x.Do(Event{Kind: byte(kind), Conn: n, Data: p, Pick: n})
				x.Out(n)
				x.Ready()
				x.Nexus(n)
				x.Unit(n)
			}
		}
	}
}

func TestCopyEnds(t *testing.T) {
	for _, kind := range []byte{Connect, Bytes, Step, Drop, Crash} {
		r := twoIn(t)
		for tag := range uint32(9) {
			r.send(int(tag%2), plainTask(0, tag, byte(1+tag%3)))
		}
		twin := *r.Target
		other := &rig{Target: &twin, t: t, w: r.w}
		for at := range 12 {
			r.Do(Event{Kind: kind, Conn: at % 2, Pick: at, Data: r.bytesOf(0, function(0, 1, 5, 0), plainTask(0, uint32(at), 1))})
			for _, second := range []byte{Step, Bytes, Step, Drop, Connect, Crash} {
				other.Do(Event{Kind: second, Conn: at % 3, Pick: at, Data: r.bytesOf(0, plainTask(0, uint32(at), 1), function(0, 1, 2, 0))})
				other.Ready()
				r.Ready()
			}
		}
	}
}

// What is handed in is neither changed nor kept; what is told is new memory.
func TestMemory(t *testing.T) {
	r := newRig(t, usual()).awake()
	r.connect(0)
	send := func(p []byte) {
		t.Helper()
		data := append(slices.Clone(p), fill(0xee, 16)...)
		wanted := slices.Clone(data)
		r.do(Event{Kind: Bytes, Data: data[:len(p)]})
		if !bytes.Equal(data, wanted) {
			t.Errorf("Bytes has changed what was handed in: %x", data)
		}
		for at := range data {
			data[at] = 0x55
		}
	}
	p := r.bytesOf(0, loginReq(0x87, asInitiator("i")...))
	send(p[:50])
	send(p[50:])
	// A command that is held, one whose data come in pieces, one that waits to run.
	held := plainTask(0, 1, 1)
	held.Op, held.Words[1] = 1, 6
	send(r.bytesOf(0, held))
	send(r.bytesOf(0, command(0, 2, writes, 32, write(0, 2), fill(7, 16)...)))
	send(r.bytesOf(0, api.PDU{Op: 5, Flags: 0x80, Tag: 2, Words: [7]uint32{1, 0, 0, 0, 0, 16}, Data: fill(8, 16)}))
	first := plainTask(0, 3, 1)
	first.Op, first.Words[1] = 1, 5
	send(r.bytesOf(0, first))
	r.wantReady(3)
	for range 3 {
		r.step(0)
	}
	send(r.bytesOf(0, command(0, 4, reads, 32, read(0, 2))))
	r.step(0)
	r.wantNews(0, "login 87 00000000 ", "31 2", good(2), good(3), good(1),
		dataIn(4, "07070707070707070707070707070707 08080808080808080808080808080808"), good(4))
	one, two := r.Out(0), r.Out(0)
	wanted := slices.Clone(one)
	for _, p := range [][]byte{one, two} {
		p = p[:cap(p)]
		for at := range p {
			p[at] = 0x55
		}
		if !bytes.Equal(r.Out(0), wanted) {
			t.Errorf("what was told is the target's own memory")
		}
	}
	r.send(0, nop(9))
	if !bytes.HasPrefix(r.Out(0), wanted) || len(r.Out(0)) != len(wanted)+48 {
		t.Errorf("what goes out is laid behind what was told")
	}
}

// P8: bytes in pieces of every size.

// script tells bytes of one connection: a login, and PDUs of all kinds behind it.
func script(r *rig) []byte {
	numbered := plainTask(1, 8, 2)
	numbered.Op, numbered.Words[1] = 1, 6
	ahead := plainTask(1, 9, 1)
	ahead.Op, ahead.Words[1] = 1, 5
	return r.bytesOf(0,
		loginReq(0x00, asInitiator("i", "InitiatorAlias=x")...),
		loginReq(0x81, "X=1"),
		loginReq(0x87, "MaxBurstLength=512", "Y=22"),
		nop(1),
		command(0, 2, writes, 600, write(0, 2), fill(7, 21)...),
		api.PDU{Op: 5, Tag: 2, Words: [7]uint32{1, 0, 0, 0, 0, 21}, Data: fill(8, 500)},
		api.PDU{Op: 5, Flags: 0x80, Tag: 2, Words: [7]uint32{1, 0, 0, 0, 0, 521}, Data: fill(8, 12)},
		numbered,
		command(0, 3, reads, 64, luns),
		ahead,
		command(5, 4, 0, 0, ready),
		plainTask(0, 5, 1),
		function(0, 6, 1, 5),
		function(1, 7, 2, 0),
		plainTask(0, 10, 3),
		plainTask(0, 11, 1),
		plainTask(1, 13, 1),
		api.PDU{Op: 0x7f, Tag: 12, Data: fill(1, 3)},
	)
}

// heard tells all that is to be heard of a target behind a script.
func heard(r *rig) []byte {
	all := r.Out(0)
	all = append(all, byte(r.Ready()), byte(r.Nexus(0)))
	r.runAll()
	return append(all, r.Out(0)...)
}

func TestCutAnyhow(t *testing.T) {
	r := newRig(t, usual())
	r.connect(0)
	p := script(r)
	r.do(Event{Kind: Bytes, Data: p})
	if r.wantReady(2); len(r.Out(0)) < 500 {
		t.Fatalf("the script: %x", r.Out(0))
	}
	wanted := heard(r)
	for size := 1; size <= len(p); size++ {
		r := newRig(t, usual())
		r.connect(0)
		for piece := range slices.Chunk(p, size) {
			r.do(Event{Kind: Bytes, Data: piece})
		}
		if got := heard(r); !bytes.Equal(got, wanted) {
			t.Fatalf("in pieces of %d: %x; want %x", size, got, wanted)
		}
	}
	for cut := range p {
		r := newRig(t, usual())
		r.connect(0)
		r.do(Event{Kind: Bytes, Data: p[:cut]})
		r.do(Event{Kind: Bytes})
		r.do(Event{Kind: Bytes, Data: p[cut:]})
		if got := heard(r); !bytes.Equal(got, wanted) {
			t.Fatalf("cut at %d: %x; want %x", cut, got, wanted)
		}
	}
}

// A fault of the reader ends the connection; what came ahead of it was done.
func TestFaultOfReader(t *testing.T) {
	for _, at := range []int{4, 8, 10, 15, 5} {
		r := twoIn(t)
		wrong := r.bytesOf(0, nop(1))
		wrong[at] = 1
		r.send(1, plainTask(0, 1, 1))
		r.do(Event{Kind: Bytes, Data: slices.Concat(r.bytesOf(0, plainTask(0, 1, 1), plainTask(1, 2, 1),
			command(1, 3, reads, 0, luns)), wrong[:47])})
		r.wantReady(3)
		r.wantThere(0, true)
		r.do(Event{Kind: Bytes, Data: append(wrong[47:], r.bytesOf(0, nop(2))...)})
		r.wantThere(0, false)
		r.wantReady(1)
		r.wantNexus(-1, 1)
	}
	// A login, too; and what comes behind one fault is looked at no more.
	r := newRig(t, usual())
	r.connect(0)
	r.do(Event{Kind: Bytes, Data: append(fill(0xff, 48), r.bytesOf(0, loginReq(0x87, asInitiator("i")...))...)})
	r.wantThere(0, false)
}

func TestSeveralAtOnce(t *testing.T) {
	r := newRig(t, usual()).awake()
	r.connect(0)
	r.send(0, loginReq(0x87, asInitiator("i")...), plainTask(0, 1, 1), nop(2), plainTask(0, 3, 1))
	r.wantReady(2)
	r.wantNews(0, "login 87 00000000 ", "20 2")
	// A logout ends the connection; what it did goes with it, and what comes behind it isn't looked at.
	r.logIn(1, "j")
	r.send(1, plainTask(0, 1, 1))
	r.send(0, logout(4), nop(5), plainTask(0, 6, 1))
	r.wantThere(0, false)
	r.wantNexus(-1, 1)
	r.wantReady(1)
}

// What a session does ahead of its end is done: also a function that comes with the logout.
func TestLogoutWithTasks(t *testing.T) {
	r := twoIn(t)
	r.send(1, plainTask(0, 1, 1))
	last := logout(1)
	last.Op, last.Words[1] = 6, 7
	task := plainTask(1, 2, 1)
	task.Op, task.Words[1] = 1, 6
	reset := function(0, 3, 5, 0)
	reset.Op, reset.Words[1] = 2, 5
	r.send(0, last, task)
	r.wantReady(1)
	r.wantThere(0, true)
	r.send(0, reset)
	r.wantThere(0, false)
	r.wantReady(0)
	r.send(1, plainTask(0, 4, 1))
	r.step(0)
	r.wantNews(1, powerOn(4))
}

func TestManyConnections(t *testing.T) {
	c := usual()
	c.Initiators = names(8)
	c.Access = nil
	for nexus := range 8 {
		c.Access = append(c.Access, Access{nexus, nexus, 1})
	}
	r := newRig(t, c).awake()
	for n := range 8 {
		r.logIn(n, c.Initiators[7-n])
	}
	r.wantNexus(7, 6, 5, 4, 3, 2, 1, 0)
	for n := range 8 {
		for lun := range byte(9) {
			r.send(n, plainTask(lun, uint32(lun), 1))
			if lun != byte(7-n) {
				r.wantNews(n, noUnit(uint32(lun)))
			}
		}
	}
	r.wantReady(8)
	for n := range 8 {
		r.step(0)
		r.wantNews(n, good(uint32(7-n)))
	}
}

// The example of the chapter.
func TestExample(t *testing.T) {
	w := world.New()
	c := usual()
	c.Units, c.Initiators, c.Access = c.Units[:1], c.Initiators[:1], c.Access[:1]
	x, e := New(w, c)
	if e != api.OK {
		t.Fatalf("New = %d", e)
	}
	r := &rig{Target: x, t: t, w: w}
	r.connect(0)
	r.send(0, loginReq(0x87, asInitiator("i")...))
	r.wantNews(0, "login 87 00000000 ")
	r.wantNexus(0)
	r.send(0, api.PDU{Op: 1, Flags: 0xc1, Words: [7]uint32{0, 5}})
	r.wantReady(1)
	r.step(0)
	r.wantNews(0, powerOn(0))
}
