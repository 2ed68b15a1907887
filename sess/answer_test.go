package sess

import (
	"bytes"
	"math"
	"testing"

	"pallet/api"
	"pallet/login"
)

func wantEnd(t *testing.T, s *Session, tag uint32, r api.Result, described bool, wanted ...api.PDU) {
	t.Helper()
	if got := s.End(tag, r, described); !alike(got, wanted) {
		t.Errorf("End(%d, %v, %v) = %x; want %x", tag, r, described, got, wanted)
	}
}

func wantForget(t *testing.T, s *Session, tag uint32, wanted bool) {
	t.Helper()
	if got := s.Forget(tag); got != wanted {
		t.Errorf("Forget(%d) = %v", tag, got)
	}
}

// opened tells a session with the next number 5, in which a command with the tag 1 is open.
func opened(t *testing.T, segment int, flags byte, want uint32) *Session {
	t.Helper()
	s := New(login.Params{Segment: segment, Burst: 65536}, nil, 5)
	if s.In(command1(flags, 1, want, nil)); s.Waits() != 1 {
		t.Fatal("no command is open")
	}
	return s
}

// dataIn tells the DataIn to such a command.
func dataIn(flags byte, number, begin int, data []byte) api.PDU {
	p := numbers(api.PDU{Op: 0x25, Flags: flags, LUN: 2, Tag: 1, Data: data}, 0, 5)
	p.Words[0], p.Words[4], p.Words[5] = noTag, uint32(number), uint32(begin)
	return p
}

// ended tells the Response to such a command.
func ended(flags byte, status api.Status, pieces int, differs uint32) api.PDU {
	p := numbers(api.PDU{Op: 0x21, Flags: flags, Stat: byte(status), Tag: 1}, 1, 5)
	p.Words[4], p.Words[6] = uint32(pieces), differs
	return p
}

func withData(p api.PDU, data []byte) api.PDU {
	p.Data = data
	return p
}

func TestExampleReads(t *testing.T) {
	s := New(plain(), nil, 5)
	wantTask(t, s, api.PDU{Op: 1, Flags: 0xc1, Tag: 9, Words: [7]uint32{16, 5}}, Task{Tag: 9, CDB: make([]byte, 16), Want: 16})
	data := filled(16, 1)
	wantEnd(t, s, 9, api.Result{Data: data}, false,
		api.PDU{Op: 0x25, Flags: 0x80, Tag: 9, Words: [7]uint32{noTag, 0, 6, 21}, Data: data},
		api.PDU{Op: 0x21, Flags: 0x80, Tag: 9, Words: [7]uint32{0, 1, 6, 21, 1}})
	wantState(t, s, false, 0, 6)
}

// P21.1: End.

func TestPieces(t *testing.T) {
	data := filled(20, 1)
	for _, x := range []struct {
		segment int
		ends    []int
	}{
		{20, []int{20}}, {21, []int{20}}, {math.MaxInt, []int{20}}, {19, []int{19, 20}}, {10, []int{10, 20}}, {9, []int{9, 18, 20}}, {7, []int{7, 14, 20}},
	} {
		s := opened(t, x.segment, 0xc0, 20)
		var wanted []api.PDU
		begin := 0
		for i, end := range x.ends {
			wanted = append(wanted, dataIn(0, i, begin, data[begin:end]))
			begin = end
		}
		wanted[len(wanted)-1].Flags = 0x80
		wantEnd(t, s, 1, api.Result{Data: data}, false, append(wanted, ended(0x80, 0, len(x.ends), 0))...)
	}
}

func TestFewerAndMore(t *testing.T) {
	data := filled(20, 1)
	whole := func(n int) api.PDU { return dataIn(0x80, 0, 0, data[:n]) }
	for _, x := range []struct {
		want   uint32
		size   int
		wanted []api.PDU
	}{
		{0, 0, []api.PDU{ended(0x80, 0, 0, 0)}},
		{0, 20, []api.PDU{ended(0x84, 0, 0, 20)}},
		{1, 20, []api.PDU{whole(1), ended(0x84, 0, 1, 19)}},
		{19, 20, []api.PDU{whole(19), ended(0x84, 0, 1, 1)}},
		{20, 20, []api.PDU{whole(20), ended(0x80, 0, 1, 0)}},
		{21, 20, []api.PDU{whole(20), ended(0x82, 0, 1, 1)}},
		{20, 0, []api.PDU{ended(0x82, 0, 0, 20)}},
		{math.MaxUint32, 20, []api.PDU{whole(20), ended(0x82, 0, 1, math.MaxUint32-20)}},
		{math.MaxUint32, 0, []api.PDU{ended(0x82, 0, 0, math.MaxUint32)}},
		{1 << 31, 0, []api.PDU{ended(0x82, 0, 0, 1<<31)}},
	} {
		wantEnd(t, opened(t, 8192, 0xc0, x.want), 1, api.Result{Data: data[:x.size]}, false, x.wanted...)
	}
	// Of what is cut off no piece goes out.
	s := opened(t, 4, 0xc0, 8)
	wantEnd(t, s, 1, api.Result{Data: data[:9]}, false, dataIn(0, 0, 0, data[:4]), dataIn(0x80, 1, 4, data[4:8]), ended(0x84, 0, 2, 1))
}

func TestNotReading(t *testing.T) {
	// A command that doesn't read brings no data, and none lack.
	for _, flags := range []byte{0x80, 0xa0} {
		for _, want := range []uint32{0, 8, 20} {
			wantEnd(t, opened(t, 8192, flags, want), 1, api.Result{Data: make([]byte, 20)}, false, ended(0x80, 0, 0, 0))
		}
	}
	// One that does both brings them, even if its own have not come.
	data := filled(8, 1)
	s := opened(t, 8192, 0xe0, 8)
	wantEnd(t, s, 1, api.Result{Data: data}, false, dataIn(0x80, 0, 0, data), ended(0x80, 0, 1, 0))
}

func TestStatuses(t *testing.T) {
	for status := range 256 {
		if status == 0 || status == 2 {
			continue
		}
		r := api.Result{Status: api.Status(status), Data: make([]byte, 20), Sense: api.Sense{Key: 5}}
		wantEnd(t, opened(t, 8192, 0xc0, 20), 1, r, status%2 == 0, ended(0x82, api.Status(status), 0, 20))
		wantEnd(t, opened(t, 8192, 0xc0, 0), 1, r, status%2 == 0, ended(0x80, api.Status(status), 0, 0))
		wantEnd(t, opened(t, 8192, 0x80, 20), 1, r, status%2 == 0, ended(0x80, api.Status(status), 0, 0))
	}
	// A sense beside Good isn't told.
	wantEnd(t, opened(t, 8192, 0x80, 0), 1, api.Result{Sense: api.Sense{Key: 5}}, false, ended(0x80, 0, 0, 0))
}

func TestSense(t *testing.T) {
	field := api.Sense{Key: 5, Code: 0x2400, HasField: true, Field: 2, Bit: 7, InCmd: true}
	fixed := []byte{0, 18, 0x70, 0, 5, 0, 0, 0, 0, 0x0a, 0, 0, 0, 0, 0x24, 0, 0, 0xcf, 0, 2}
	described := []byte{0, 16, 0x72, 5, 0x24, 0, 0, 0, 0, 8, 2, 6, 0, 0, 0xcf, 0, 2, 0}
	zero := []byte{0, 18, 0x70, 0, 0, 0, 0, 0, 0, 0x0a, 0, 0, 0, 0, 0, 0, 0, 0, 0, 0}
	untold := []byte{0, 0}
	far := api.Sense{Key: 3, Code: 0x1100, HasInfo: true, Info: 1 << 32}
	near := api.Sense{Key: 3, Code: 0x1100, HasInfo: true, Info: 1<<32 - 1}
	farDescribed := []byte{0, 20, 0x72, 3, 0x11, 0, 0, 0, 0, 12, 0, 10, 0x80, 0, 0, 0, 0, 1, 0, 0, 0, 0}
	nearDescribed := []byte{0, 20, 0x72, 3, 0x11, 0, 0, 0, 0, 12, 0, 10, 0x80, 0, 0, 0, 0, 0, 0xff, 0xff, 0xff, 0xff}
	nearFixed := []byte{0, 18, 0xf0, 0, 3, 0xff, 0xff, 0xff, 0xff, 0x0a, 0, 0, 0, 0, 0x11, 0, 0, 0, 0, 0}
	for _, x := range []struct {
		sense     api.Sense
		described bool
		wanted    []byte
	}{
		{field, false, fixed}, {field, true, described},
		{api.Sense{}, false, zero}, {api.Sense{}, true, []byte{0, 8, 0x72, 0, 0, 0, 0, 0, 0, 0}},
		{far, false, farDescribed}, {far, true, farDescribed},
		{near, false, nearFixed}, {near, true, nearDescribed},
		// One that can't be told at all has no bytes, and that is told.
		{api.Sense{Key: 16}, false, untold}, {api.Sense{Key: 16}, true, untold},
		{api.Sense{Info: 1}, false, untold}, {api.Sense{Info: 1 << 32}, false, untold}, {api.Sense{Info: 1 << 32}, true, untold},
		{api.Sense{HasField: true, Field: 65536}, false, untold}, {api.Sense{HasField: true, Bit: 8}, true, untold},
	} {
		r := api.Result{Status: api.Check, Sense: x.sense, Data: make([]byte, 20)}
		wantEnd(t, opened(t, 1, 0xc0, 20), 1, r, x.described, withData(ended(0x82, 2, 0, 20), x.wanted))
		wantEnd(t, opened(t, 1, 0xc0, 0), 1, r, x.described, withData(ended(0x80, 2, 0, 0), x.wanted))
		wantEnd(t, opened(t, 1, 0xa0, 20), 1, r, x.described, withData(ended(0x80, 2, 0, 0), x.wanted))
	}
}

func TestEndNumbers(t *testing.T) {
	// Data don't count; the response does.
	s := New(login.Params{Segment: 1}, nil, math.MaxUint32)
	s.In(api.PDU{Op: 1, Flags: 0xc0, LUN: 3, Tag: 7, Words: [7]uint32{2, math.MaxUint32}})
	s.In(api.PDU{Op: 1, Flags: 0x80, LUN: 3, Tag: 8, Words: [7]uint32{2, 0}})
	s.Told(1, 0)
	wantEnd(t, s, 7, api.Result{Data: []byte("ab")}, false,
		api.PDU{Op: 0x25, LUN: 3, Tag: 7, Words: [7]uint32{noTag, 0, 1, 16, 0, 0}, Data: []byte("a")},
		api.PDU{Op: 0x25, Flags: 0x80, LUN: 3, Tag: 7, Words: [7]uint32{noTag, 0, 1, 16, 1, 1}, Data: []byte("b")},
		api.PDU{Op: 0x21, Flags: 0x80, Tag: 7, Words: [7]uint32{0, 2, 1, 16, 2}})
	wantEnd(t, s, 8, api.Result{}, false, api.PDU{Op: 0x21, Flags: 0x80, Tag: 8, Words: [7]uint32{0, 3, 1, 16}})
}

func TestEndOfNone(t *testing.T) {
	s := opened(t, 8192, 0x80, 0)
	for _, tag := range []uint32{0, 2, noTag} {
		wantEnd(t, s, tag, api.Result{Data: make([]byte, 8)}, false)
	}
	wantState(t, s, false, 1, 5)
	wantEnd(t, s, 1, api.Result{}, false, ended(0x80, 0, 0, 0))
	wantState(t, s, false, 0, 5)
	// There is one answer.
	wantEnd(t, s, 1, api.Result{}, false)
	wantForget(t, s, 1, false)
	// Functions are no commands.
	s.In(api.PDU{Op: 0x42, Tag: 3, Flags: 1})
	wantEnd(t, s, 3, api.Result{}, false)
}

func TestEndInAnyOrder(t *testing.T) {
	s := New(plain(), nil, 0)
	for tag := range uint32(20) {
		s.In(api.PDU{Op: 1, Flags: 0xc0, LUN: byte(tag), Tag: tag, Words: [7]uint32{tag, tag}})
	}
	wantState(t, s, false, 20, 20)
	for i := range uint32(20) {
		tag := i * 7 % 20
		data := filled(int(tag), 1)
		var wanted []api.PDU
		if tag > 0 {
			wanted = append(wanted, api.PDU{Op: 0x25, Flags: 0x80, LUN: byte(tag), Tag: tag, Words: [7]uint32{noTag, 0, 20, 35}, Data: data})
		}
		last := api.PDU{Op: 0x21, Flags: 0x80, Tag: tag, Words: [7]uint32{0, i + 1, 20, 35, uint32(len(wanted))}}
		wantEnd(t, s, tag, api.Result{Data: data}, false, append(wanted, last)...)
		wantState(t, s, false, 19-int(i), 20)
	}
}

// P21.1: Told and Forget.

func TestTold(t *testing.T) {
	s := New(plain(), nil, 5)
	for i, code := range []byte{0, 1, 2, 5, 255} {
		wanted := numbers(api.PDU{Op: 0x22, Flags: 0x80, Res: code, Tag: 77}, uint32(i)+1, 5)
		if got := s.Told(77, code); !alike(got, []api.PDU{wanted}) {
			t.Errorf("Told = %x; want %x", got, wanted)
		}
	}
	wantState(t, s, false, 0, 5)
	// Whether its tag is a command's is nothing to it.
	s.In(command1(0x80, 77, 0, nil))
	if got := s.Told(77, 1); len(got) != 1 || s.Waits() != 1 {
		t.Errorf("Told = %x", got)
	}
}

func TestForget(t *testing.T) {
	s := New(plain(), nil, 5)
	for tag := range uint32(4) {
		s.In(command1(0xa0, tag, 8, nil))
	}
	wantForget(t, s, 4, false)
	wantForget(t, s, 2, true)
	wantForget(t, s, 2, false)
	wantState(t, s, false, 3, 5)
	wantEnd(t, s, 2, api.Result{}, false)
	for _, tag := range []uint32{3, 0, 1} {
		wantTask(t, s, dataOut(0x80, tag, tag+1, 0, make([]byte, 8)), task1(tag, 8, make([]byte, 8)))
		wantForget(t, s, tag, true)
	}
	wantState(t, s, false, 0, 5)
}

func TestForgetLeavesHeld(t *testing.T) {
	s := New(plain(), nil, 5)
	wantOut(t, s, api.PDU{Op: 1, Tag: 1, Words: [7]uint32{0, 6}})
	wantForget(t, s, 1, false)
	wantIn(t, s, nopOut(noTag, 5), nil, []Task{{Tag: 1, CDB: make([]byte, 16)}})
}

// P21.3

func TestSegment(t *testing.T) {
	for _, segment := range []int{0, -1, math.MinInt, 1} {
		s := opened(t, segment, 0xc0, 3)
		wantEnd(t, s, 1, api.Result{Data: []byte("abcd")}, false,
			dataIn(0, 0, 0, []byte("a")), dataIn(0, 1, 1, []byte("b")), dataIn(0x80, 2, 2, []byte("c")), ended(0x84, 0, 3, 1))
	}
}

// Memory

func TestEndNotShared(t *testing.T) {
	s := opened(t, 4, 0xc0, 9)
	data := filled(12, 1)
	r := api.Result{Data: bytes.Clone(data)}
	out := s.End(1, r, false)
	spoil(r.Data)
	kept := bytes.Clone(r.Data)
	for i, p := range out[:3] {
		begin := i * 4
		if !bytes.Equal(p.Data, data[begin:min(begin+4, 9)]) {
			t.Errorf("the piece %d is %x", i, p.Data)
		}
		spoil(p.Data)
	}
	if !bytes.Equal(r.Data, kept) {
		t.Error("what was handed in is what was answered")
	}
}
