package sess

import (
	"bytes"
	"math"
	"testing"

	"pallet/api"
	"pallet/login"
)

// command1 tells a command that is done at once.
func command1(flags byte, tag, want uint32, data []byte) api.PDU {
	return api.PDU{Op: 0x41, Flags: flags, LUN: 2, Tag: tag, Words: [7]uint32{want, 0, 0, 1, 2, 3, 4}, Data: data}
}

// task1 tells the task of such a command, with the attribute 0.
func task1(tag uint32, want int, out []byte) Task {
	return Task{Tag: tag, LUN: 2, CDB: []byte{0, 0, 0, 1, 0, 0, 0, 2, 0, 0, 0, 3, 0, 0, 0, 4}, Out: out, Want: want}
}

// ask tells the R2T to such a command, in a session that was told first 5.
func ask(tag, askTag, stat, times uint32, begin, size int) api.PDU {
	return numbers(api.PDU{Op: 0x31, Flags: 0x80, LUN: 2, Tag: tag, Words: [7]uint32{askTag, 0, 0, 0, times, uint32(begin), uint32(size)}}, stat, 5)
}

func dataOut(flags byte, tag, askTag uint32, begin int, data []byte) api.PDU {
	return api.PDU{Op: 5, Flags: flags, LUN: 7, Tag: tag, Words: [7]uint32{askTag, 1, 2, 3, 4, uint32(begin), 6}, Data: data}
}

func wantTask(t *testing.T, s *Session, p api.PDU, wanted Task) {
	t.Helper()
	wantIn(t, s, p, nil, []Task{wanted})
}

func TestExampleWrites(t *testing.T) {
	s := New(plain(), nil, 5)
	data := filled(32, 1)
	wantOut(t, s, api.PDU{Op: 1, Flags: 0xa1, Tag: 9, Words: [7]uint32{32, 5}, Data: data[:16]},
		api.PDU{Op: 0x31, Flags: 0x80, Tag: 9, Words: [7]uint32{1, 1, 6, 21, 0, 16, 16}})
	wantTask(t, s, api.PDU{Op: 5, Flags: 0x80, Tag: 9, Words: [7]uint32{1, 0, 0, 0, 0, 16}, Data: data[16:]},
		Task{Tag: 9, CDB: make([]byte, 16), Out: data, Want: 32})
	wantState(t, s, false, 1, 6)
}

// P21.1: commands.

func TestCommandBytes(t *testing.T) {
	s := New(plain(), nil, 5)
	p := api.PDU{Op: 1, Flags: 0xc0, Res: 0xff, Stat: 0xfe, LUN: 0xfd, Tag: 0xfcfbfaf9,
		Words: [7]uint32{0x80000001, 5, 0xf8f7f6f5, 0x01020304, 0x05060708, 0x090a0b0c, 0xfdfeff00}}
	wantTask(t, s, p, Task{Tag: 0xfcfbfaf9, LUN: 0xfd, CDB: []byte{1, 2, 3, 4, 5, 6, 7, 8, 9, 10, 11, 12, 0xfd, 0xfe, 0xff, 0}, Want: 0x80000001})
	wantState(t, s, false, 1, 6)
}

func TestAttributes(t *testing.T) {
	for flags := range 256 {
		s := New(plain(), nil, 5)
		wanted := task1(1, 0, nil)
		wanted.Attr = []api.Attr{0, 0, 1, 2, 3, 0, 0, 0}[flags&7]
		wantTask(t, s, command1(byte(flags), 1, 0, nil), wanted)
	}
}

func TestTagIsOpen(t *testing.T) {
	for _, p := range []login.Params{plain(), {}} {
		s := New(p, nil, 5)
		for i, tag := range []uint32{0, 1, 0xffffffff} {
			wantTask(t, s, command1(0xc0, tag, 8, nil), task1(tag, 8, nil))
			again := command1(0x80, tag, 8, nil)
			wantOut(t, s, again, refused(again, 9, uint32(i)+1, 5))
			wantState(t, s, false, i+1, 5)
		}
		// A function may have the tag of an open command.
		wantTask(t, s, api.PDU{Op: 0x42, Tag: 1, Flags: 1}, Task{Tag: 1, Func: 1})
	}
	s := New(plain(), nil, 5)
	wantOut(t, s, command1(0xa0, 1, 8, nil), ask(1, 1, 1, 0, 0, 8))
	again := command1(0xa0, 1, 8, nil)
	wantOut(t, s, again, refused(again, 9, 1, 5))
	// Behind its answer the tag is free, and behind being forgotten, too.
	s.End(1, api.Result{}, false)
	wantTask(t, s, command1(0xc0, 1, 8, nil), task1(1, 8, nil))
	wantForget(t, s, 1, true)
	wantTask(t, s, command1(0xc0, 1, 8, nil), task1(1, 8, nil))
}

func TestTagOfAHeldCommandIsFree(t *testing.T) {
	s := New(plain(), nil, 5)
	held := api.PDU{Op: 1, Tag: 1, Words: [7]uint32{0, 6}}
	wantOut(t, s, held)
	wantState(t, s, false, 0, 5)
	wantTask(t, s, command1(0x80, 1, 0, nil), task1(1, 0, nil))
	wantOut(t, s, nopOut(2, 5), nopIn(2, 1, 6), refused(held, 9, 2, 7))
}

func TestCommandInDiscovery(t *testing.T) {
	s := New(discovery(), nil, 5)
	for i, p := range []api.PDU{command1(0xc0, 1, 8, nil), command1(0x80, 1, 8, []byte("no")), command1(0xa0, 1, 1<<20+1, nil)} {
		wantOut(t, s, p, refused(p, 4, uint32(i)+1, 5))
	}
	wantState(t, s, false, 0, 5)
	p := api.PDU{Op: 1, Words: [7]uint32{0, 5}}
	wantOut(t, s, p, refused(p, 4, 4, 6))
}

func TestDataWithCommand(t *testing.T) {
	first := func(n int, immediate bool) login.Params {
		return login.Params{Segment: 8192, Burst: 65536, First: n, Immediate: immediate}
	}
	for _, x := range []struct {
		params login.Params
		flags  byte
		want   uint32
		data   int
		ok     bool
	}{
		{first(8, true), 0xa0, 8, 8, true},
		{first(8, true), 0xe0, 8, 8, true},
		{first(8, true), 0xa0, 9, 9, false}, // beyond First
		{first(8, true), 0xa0, 7, 8, false}, // beyond Want
		{first(8, true), 0xa0, 7, 7, true},
		{first(7, true), 0xa0, 8, 8, false},
		{first(1, true), 0xa0, 1, 1, true},
		{first(0, true), 0xa0, 1, 1, false},
		{first(-1, true), 0xa0, 1, 1, false},
		{first(-1, true), 0xa0, 0, 0, true},
		{first(8, true), 0xa0, 0, 1, false},
		{first(8, false), 0xa0, 8, 8, false}, // Immediate doesn't hold
		{first(8, false), 0xa0, 0, 0, true},
		{first(8, true), 0x80, 8, 8, false}, // it doesn't write
		{first(8, true), 0xc0, 8, 1, false},
		{first(8, true), 0xc0, 8, 0, true},
		{first(1<<21, true), 0xa0, 1 << 20, 1 << 20, true},
		{first(1<<21, true), 0xa0, 1<<20 + 1, 1<<20 + 1, false},
		{first(math.MaxInt, true), 0xa0, 9000, 9000, true},
	} {
		s := New(x.params, nil, 5)
		p := command1(x.flags, 1, x.want, filled(x.data, 1))
		if x.ok {
			wantTask(t, s, p, task1(1, int(x.want), p.Data))
			wantState(t, s, false, 1, 5)
		} else {
			wantOut(t, s, p, refused(p, 9, 1, 5))
			wantState(t, s, false, 0, 5)
		}
	}
}

func TestMostWritten(t *testing.T) {
	for _, flags := range []byte{0xa0, 0xe0} {
		for _, want := range []uint32{1<<20 + 1, 1 << 31, 1<<32 - 1} {
			s := New(plain(), nil, 5)
			p := command1(flags, 1, want, nil)
			wantOut(t, s, p, refused(p, 9, 1, 5))
			wantState(t, s, false, 0, 5)
			p = command1(flags&^0x20, 1, want, nil)
			wantTask(t, s, p, task1(1, int(want), nil))
		}
		s := New(plain(), nil, 5)
		wantOut(t, s, command1(flags, 1, 1<<20, nil), ask(1, 1, 1, 0, 0, 65536))
		wantState(t, s, false, 1, 5)
	}
}

// P21.1: data that are asked for.

func TestAskedOften(t *testing.T) {
	s := New(login.Params{Burst: 10, First: 100, Immediate: true}, nil, 5)
	data := filled(35, 1)
	wantOut(t, s, command1(0xa0, 1, 35, data[:4]), ask(1, 1, 1, 0, 4, 10))
	wantOut(t, s, dataOut(0x80, 1, 1, 4, data[4:14]), ask(1, 2, 1, 1, 14, 10))
	// In pieces, with the last of them told or not.
	wantOut(t, s, dataOut(0, 1, 2, 14, data[14:20]))
	wantOut(t, s, dataOut(0, 1, 2, 20, nil))
	wantOut(t, s, dataOut(0x7f, 1, 2, 20, data[20:23]))
	wantOut(t, s, dataOut(0, 1, 2, 23, data[23:24]), ask(1, 3, 1, 2, 24, 10))
	wantOut(t, s, dataOut(0x80, 1, 3, 24, data[24:34]), ask(1, 4, 1, 3, 34, 1))
	wantTask(t, s, dataOut(0, 1, 4, 34, data[34:]), task1(1, 35, data))
	wantState(t, s, false, 1, 5)
	// It waits no more: neither for the last data again nor for others.
	for i, p := range []api.PDU{dataOut(0, 1, 4, 34, data[34:]), dataOut(0x80, 1, 4, 35, nil)} {
		wantOut(t, s, p, refused(p, 9, uint32(i)+1, 5))
	}
}

func TestSeveralWrites(t *testing.T) {
	s := New(login.Params{Burst: 4}, nil, 5)
	a, b := filled(8, 1), filled(8, 2)
	wantOut(t, s, command1(0xa0, 1, 8, nil), ask(1, 1, 1, 0, 0, 4))
	wantOut(t, s, command1(0xa3, 2, 8, nil), ask(2, 2, 1, 0, 0, 4))
	// Each has a tag of its own, and its own place.
	for i, p := range []api.PDU{dataOut(0x80, 1, 2, 0, a[:4]), dataOut(0x80, 2, 1, 0, b[:4])} {
		wantOut(t, s, p, refused(p, 9, uint32(i)+1, 5))
	}
	wantOut(t, s, dataOut(0x80, 2, 2, 0, b[:4]), ask(2, 3, 3, 1, 4, 4))
	wantOut(t, s, dataOut(0x80, 1, 1, 0, a[:4]), ask(1, 4, 3, 1, 4, 4))
	wantTask(t, s, dataOut(0x80, 1, 4, 4, a[4:]), task1(1, 8, a))
	last := task1(2, 8, b)
	last.Attr = api.Head
	wantTask(t, s, dataOut(0x80, 2, 3, 4, b[4:]), last)
}

func TestWrongData(t *testing.T) {
	data := filled(8, 1)
	for _, x := range []struct {
		what string
		p    api.PDU
	}{
		{"another tag", dataOut(0x80, 2, 1, 0, data)},
		{"another asked tag", dataOut(0x80, 1, 2, 0, data)},
		{"no asked tag", dataOut(0x80, 1, 0, 0, data)},
		{"a place behind", dataOut(0x80, 1, 1, 1, data)},
		{"a place far behind", dataOut(0x80, 1, 1, 1<<31, data)},
		{"a place below", dataOut(0x80, 1, 1, -1, data)},
		{"too many", dataOut(0x80, 1, 1, 0, filled(9, 1))},
		{"far too many", dataOut(0x80, 1, 1, 0, filled(9000, 1))},
	} {
		s := New(login.Params{Burst: 8}, nil, 5)
		wantOut(t, s, command1(0xa0, 1, 20, nil), ask(1, 1, 1, 0, 0, 8))
		for i := range uint32(2) {
			wantOut(t, s, x.p, refused(x.p, 9, 1+i, 5))
		}
		// Nothing of it has come.
		wantOut(t, s, dataOut(0x80, 1, 1, 0, data), ask(1, 2, 3, 1, 8, 8))
		if t.Failed() {
			t.Fatal(x.what)
		}
	}
}

func TestDataEndTooEarly(t *testing.T) {
	s := New(plain(), nil, 5)
	data := filled(8, 1)
	wantOut(t, s, command1(0xa0, 1, 8, nil), ask(1, 1, 1, 0, 0, 8))
	// It is refused, but the data have come.
	p := dataOut(0x80, 1, 1, 0, data[:5])
	wantOut(t, s, p, refused(p, 9, 1, 5))
	p = dataOut(0x80, 1, 1, 5, nil)
	wantOut(t, s, p, refused(p, 9, 2, 5))
	p = dataOut(0x80, 1, 1, 0, data)
	wantOut(t, s, p, refused(p, 9, 3, 5))
	wantTask(t, s, dataOut(0x80, 1, 1, 5, data[5:]), task1(1, 8, data))
}

func TestTooManyBehindSome(t *testing.T) {
	s := New(login.Params{Burst: 8}, nil, 5)
	wantOut(t, s, command1(0xa0, 1, 20, nil), ask(1, 1, 1, 0, 0, 8))
	wantOut(t, s, dataOut(0, 1, 1, 0, make([]byte, 3)))
	p := dataOut(0, 1, 1, 3, make([]byte, 6))
	wantOut(t, s, p, refused(p, 9, 1, 5))
	wantOut(t, s, dataOut(0, 1, 1, 3, make([]byte, 5)), ask(1, 2, 2, 1, 8, 8))
	// What was asked for has the tag that it was asked by last.
	p = dataOut(0, 1, 1, 8, make([]byte, 8))
	wantOut(t, s, p, refused(p, 9, 2, 5))
	wantOut(t, s, dataOut(0, 1, 2, 8, make([]byte, 8)), ask(1, 3, 3, 2, 16, 4))
	p = dataOut(0, 1, 3, 16, make([]byte, 5))
	wantOut(t, s, p, refused(p, 9, 3, 5))
	wantTask(t, s, dataOut(0, 1, 3, 16, make([]byte, 4)), task1(1, 20, make([]byte, 20)))
}

func TestDataOfNoWrite(t *testing.T) {
	s := New(plain(), nil, 5)
	p := dataOut(0x80, 1, 0, 0, nil)
	wantOut(t, s, p, refused(p, 9, 1, 5))
	wantTask(t, s, command1(0xc0, 1, 8, nil), task1(1, 8, nil))
	wantOut(t, s, p, refused(p, 9, 2, 5))
	wantTask(t, s, command1(0xa0, 2, 0, nil), task1(2, 0, nil))
	p = dataOut(0x80, 2, 0, 0, nil)
	wantOut(t, s, p, refused(p, 9, 3, 5))
}

func TestDataForgotten(t *testing.T) {
	for _, forget := range []func(s *Session){
		func(s *Session) { wantForget(t, s, 1, true) },
		func(s *Session) { s.End(1, api.Result{Status: api.Aborted}, false) },
	} {
		s := New(plain(), nil, 5)
		wantOut(t, s, command1(0xa0, 1, 8, nil), ask(1, 1, 1, 0, 0, 8))
		wantOut(t, s, command1(0xa0, 2, 8, nil), ask(2, 2, 1, 0, 0, 8))
		forget(s)
		wantState(t, s, false, 1, 5)
		stat := s.stat
		p := dataOut(0x80, 1, 1, 0, make([]byte, 8))
		wantOut(t, s, p, refused(p, 9, stat, 5))
		wantTask(t, s, dataOut(0x80, 2, 2, 0, make([]byte, 8)), task1(2, 8, make([]byte, 8)))
		// The tags go on.
		wantOut(t, s, command1(0xa0, 1, 8, nil), ask(1, 3, stat+1, 0, 0, 8))
	}
}

func TestDataOperations(t *testing.T) {
	for _, op := range []byte{0x05, 0x45, 0x85, 0xc5} {
		s := New(plain(), nil, 5)
		wantOut(t, s, command1(0xe0, 1, 8, nil), ask(1, 1, 1, 0, 0, 8))
		p := dataOut(0x80, 1, 1, 0, make([]byte, 8))
		p.Op = op
		wantTask(t, s, p, task1(1, 8, make([]byte, 8)))
	}
}

// P21.3

func TestBurst(t *testing.T) {
	for _, burst := range []int{0, -1, math.MinInt, 1} {
		s := New(login.Params{Burst: burst}, nil, 5)
		data := filled(5, 1)
		wantOut(t, s, command1(0xa0, 1, 5, nil), ask(1, 1, 1, 0, 0, 1))
		for i := range 4 {
			wantOut(t, s, dataOut(0x80, 1, uint32(i)+1, i, data[i:i+1]), ask(1, uint32(i)+2, 1, uint32(i)+1, i+1, 1))
		}
		wantTask(t, s, dataOut(0x80, 1, 5, 4, data[4:]), task1(1, 5, data))
	}
	for _, burst := range []int{8, 9, math.MaxInt} {
		s := New(login.Params{Burst: burst}, nil, 5)
		wantOut(t, s, command1(0xa0, 1, 8, nil), ask(1, 1, 1, 0, 0, 8))
	}
	s := New(login.Params{Burst: 7}, nil, 5)
	wantOut(t, s, command1(0xa0, 1, 8, nil), ask(1, 1, 1, 0, 0, 7))
}

func TestWholeWrite(t *testing.T) {
	s := New(login.Params{Burst: 1000, First: 8192, Immediate: true}, nil, 5)
	data := filled(1<<20, 1)
	wantOut(t, s, command1(0xa0, 1, 1<<20, data[:8192]), ask(1, 1, 1, 0, 8192, 1000))
	at, asked := 8192, uint32(1)
	for at+1000 < len(data) {
		out, tasks := s.In(dataOut(0x80, 1, asked, at, data[at:at+1000]))
		at += 1000
		asked++
		if !alike(out, []api.PDU{ask(1, asked, 1, asked-1, at, min(1000, len(data)-at))}) || len(tasks) != 0 {
			t.Fatalf("at %d: %x, %v", at, out, tasks)
		}
	}
	_, tasks := s.In(dataOut(0x80, 1, asked, at, data[at:]))
	if len(tasks) != 1 || !bytes.Equal(tasks[0].Out, data) {
		t.Errorf("%d tasks", len(tasks))
	}
}

// Memory

func TestCommandDataNotShared(t *testing.T) {
	s := New(plain(), nil, 5)
	data := filled(8, 1)
	p := command1(0xa0, 1, 8, bytes.Clone(data))
	_, tasks := s.In(p)
	spoil(p.Data)
	if !bytes.Equal(tasks[0].Out, data) {
		t.Error("the task's data are what was handed in")
	}
	kept := bytes.Clone(p.Data)
	spoil(tasks[0].Out)
	spoil(tasks[0].CDB)
	if !bytes.Equal(p.Data, kept) {
		t.Error("what was handed in is the task's data")
	}
}

func TestWriteDataNotShared(t *testing.T) {
	s := New(plain(), nil, 5)
	data := filled(12, 1)
	for i, x := range []struct {
		begin, end int
	}{{0, 4}, {4, 8}} {
		piece := append(make([]byte, 0, 32), data[x.begin:x.end]...)
		p := dataOut(0, 1, 1, x.begin, piece)
		if i == 0 {
			p = command1(0xa0, 1, 12, piece)
		}
		s.In(p)
		if !bytes.Equal(piece[:32], append(bytes.Clone(data[x.begin:x.end]), make([]byte, 28)...)) {
			t.Errorf("In has changed what was handed in: %x", piece[:32])
		}
		spoil(piece)
	}
	wantTask(t, s, dataOut(0x80, 1, 1, 8, data[8:]), task1(1, 12, data))
}
