package sess

import (
	"bytes"
	"math"
	"slices"
	"strings"
	"testing"

	"pallet/api"
	"pallet/login"
)

const noTag = 0xffffffff

func plain() login.Params {
	return login.Params{Target: "t", Segment: 8192, Burst: 65536, First: 65536, Immediate: true}
}

func discovery() login.Params {
	return login.Params{Discovery: true, Segment: 8192, Burst: 65536, First: 65536, Immediate: true}
}

// numbers tells a PDU with the numbers.
func numbers(p api.PDU, stat, next uint32) api.PDU {
	p.Words[1], p.Words[2], p.Words[3] = stat, next, next+15
	return p
}

// refused tells the Reject of a PDU.
func refused(p api.PDU, why byte, stat, next uint32) api.PDU {
	m := newModel(login.Params{}, nil, next)
	m.stat = stat
	m.reject(p, why)
	return m.out[0]
}

func nopOut(tag, number uint32) api.PDU {
	return api.PDU{Op: 0x00, Flags: 0x80, LUN: 3, Tag: tag, Words: [7]uint32{noTag, number}}
}

func nopIn(tag, stat, next uint32) api.PDU {
	return numbers(api.PDU{Op: 0x20, Flags: 0x80, LUN: 3, Tag: tag, Words: [7]uint32{noTag}}, stat, next)
}

func atOnce(p api.PDU) api.PDU {
	p.Op |= 0x40
	return p
}

func wantIn(t *testing.T, s *Session, p api.PDU, out []api.PDU, tasks []Task) {
	t.Helper()
	gotOut, gotTasks := s.In(p)
	if !alike(gotOut, out) || !alikeTasks(gotTasks, tasks) {
		t.Errorf("In(%x) = %x, %v; want %x, %v", p, gotOut, gotTasks, out, tasks)
	}
}

// wantOut: a PDU is answered by others, and no task is to be done.
func wantOut(t *testing.T, s *Session, p api.PDU, out ...api.PDU) {
	t.Helper()
	wantIn(t, s, p, out, nil)
}

func wantState(t *testing.T, s *Session, over bool, waits int, next uint32) {
	t.Helper()
	if s.Over() != over || s.Waits() != waits || s.Next() != next {
		t.Errorf("over %v, %d wait, next %d; want %v, %d, %d", s.Over(), s.Waits(), s.Next(), over, waits, next)
	}
}

func TestNew(t *testing.T) {
	for _, first := range []uint32{0, 1, 5, math.MaxInt32, 1 << 31, math.MaxUint32} {
		s := New(plain(), nil, first)
		wantState(t, s, false, 0, first)
		wantOut(t, s, atOnce(nopOut(7, 0)), nopIn(7, 1, first))
		wantOut(t, s, atOnce(nopOut(8, 0)), nopIn(8, 2, first))
	}
}

// P21.1: the order of commands.

func TestInOrder(t *testing.T) {
	s := New(plain(), nil, 5)
	for i := range uint32(40) {
		wantOut(t, s, nopOut(i, 5+i), nopIn(i, 1+i, 6+i))
		wantState(t, s, false, 0, 6+i)
	}
}

func TestTooEarly(t *testing.T) {
	s := New(plain(), nil, 5)
	for _, number := range []uint32{9, 7, 6, 8} {
		wantOut(t, s, nopOut(number, number))
		wantState(t, s, false, 0, 5)
	}
	wantOut(t, s, nopOut(5, 5), nopIn(5, 1, 6), nopIn(6, 2, 7), nopIn(7, 3, 8), nopIn(8, 4, 9), nopIn(9, 5, 10))
	wantState(t, s, false, 0, 10)
	wantOut(t, s, nopOut(12, 12))
	wantOut(t, s, nopOut(10, 10), nopIn(10, 6, 11))
	wantOut(t, s, nopOut(11, 11), nopIn(11, 7, 12), nopIn(12, 8, 13))
}

func TestTwice(t *testing.T) {
	s := New(plain(), nil, 5)
	wantOut(t, s, nopOut(1, 7))
	wantOut(t, s, nopOut(2, 7))
	wantOut(t, s, nopOut(3, 5), nopIn(3, 1, 6))
	wantOut(t, s, nopOut(4, 5))
	wantOut(t, s, nopOut(5, 6), nopIn(5, 2, 7), nopIn(1, 3, 8))
	wantOut(t, s, nopOut(6, 7))
	wantState(t, s, false, 0, 8)
}

func TestWindow(t *testing.T) {
	for _, first := range []uint32{0, 5, 100, 1<<31 - 3, math.MaxUint32 - 20, math.MaxUint32 - 14, math.MaxUint32 - 7, math.MaxUint32} {
		s := New(plain(), nil, first)
		for _, ahead := range []uint32{16, 17, 1 << 31, math.MaxUint32, math.MaxUint32 - 1} {
			wantOut(t, s, nopOut(1000, first+ahead))
		}
		var wanted []api.PDU
		wanted = append(wanted, nopIn(0, 1, first+1))
		for ahead := range uint32(15) {
			wantOut(t, s, nopOut(15-ahead, first+15-ahead))
			wanted = append(wanted, nopIn(ahead+1, ahead+2, first+ahead+2))
		}
		wantState(t, s, false, 0, first)
		wantOut(t, s, nopOut(0, first), wanted...)
		wantState(t, s, false, 0, first+16)
		// What was too early has become the next one.
		wantOut(t, s, nopOut(16, first+16), nopIn(16, 17, first+17))
	}
}

func TestTooLate(t *testing.T) {
	s := New(plain(), nil, 2)
	for _, number := range []uint32{1, 0, math.MaxUint32, 18, 3 + 1<<31} {
		wantOut(t, s, nopOut(9, number))
	}
	wantOut(t, s, nopOut(9, 2), nopIn(9, 1, 3))
	wantOut(t, s, nopOut(9, 2))
}

func TestAtOnce(t *testing.T) {
	s := New(plain(), nil, 5)
	// Whatever number it has, and even if one with that number is held.
	wantOut(t, s, nopOut(1, 6))
	for i, number := range []uint32{5, 6, 0, 30, math.MaxUint32} {
		wantOut(t, s, atOnce(nopOut(2, number)), nopIn(2, uint32(i)+1, 5))
	}
	wantState(t, s, false, 0, 5)
	wantOut(t, s, nopOut(3, 5), nopIn(3, 6, 6), nopIn(1, 7, 7))
}

func TestRefusedPastItsTurn(t *testing.T) {
	// A command that is refused has had its turn.
	s := New(plain(), nil, 5)
	p := api.PDU{Op: 1, Flags: 0x80, Tag: 1, Words: [7]uint32{4, 5}, Data: []byte("data")}
	wantOut(t, s, p, refused(p, 9, 1, 6))
	wantState(t, s, false, 0, 6)
}

// P21.1: operations.

func TestOperations(t *testing.T) {
	for op := range 256 {
		s := New(plain(), nil, 5)
		p := api.PDU{Op: byte(op), Flags: 0x91, Res: 2, Stat: 3, LUN: 4, Tag: 0x05060708, Words: [7]uint32{noTag, 5, 0x11121314, 4, 5, 6, 0x21222324}, Data: []byte("abcde")}
		switch {
		case op&0x3f == 5:
			wantOut(t, s, p, refused(p, 9, 1, 5))
		case op >= 0x80 || !slices.Contains([]int{0, 1, 2, 4, 6}, op&0x3f):
			wantOut(t, s, p, refused(p, 5, 1, 5))
		default:
			out, tasks := s.In(p)
			if len(out)+len(tasks) != 1 || len(out) == 1 && out[0].Res == 5 {
				t.Errorf("In(%x) = %x, %v", p, out, tasks)
			}
			if s.Next() != 6-uint32(op>>6) {
				t.Errorf("behind the operation %02x the next is %d", op, s.Next())
			}
		}
	}
}

func TestRefusedByHand(t *testing.T) {
	s := New(plain(), nil, 0xfffffffe)
	p := api.PDU{Op: 0x23, Flags: 0x01, Res: 0x02, Stat: 0x03, LUN: 0x04, Tag: 0x05060708,
		Words: [7]uint32{0x090a0b0c, 0x0d0e0f10, 0x11121314, 0x15161718, 0x191a1b1c, 0x1d1e1f20, 0x21222324}, Data: make([]byte, 258)}
	head := []byte{0x23, 1, 2, 3, 0, 0, 1, 2, 0, 4, 0, 0, 0, 0, 0, 0, 5, 6, 7, 8, 9, 10, 11, 12, 13, 14, 15, 16, 17, 18, 19, 20,
		21, 22, 23, 24, 25, 26, 27, 28, 29, 30, 31, 32, 33, 34, 35, 36}
	for stat := range uint32(3) {
		wantOut(t, s, p, api.PDU{Op: 0x3f, Flags: 0x80, Res: 5, Tag: noTag, Words: [7]uint32{0, 1 + stat, 0xfffffffe, 13}, Data: head})
	}
}

func TestRefusedLongData(t *testing.T) {
	for _, n := range []int{0, 1, api.MaxData - 1, api.MaxData, api.MaxData + 1, 65536, 1<<24 - 1} {
		s := New(plain(), nil, 5)
		out, _ := s.In(api.PDU{Op: 0x3f, Data: make([]byte, n)})
		if len(out) != 1 || len(out[0].Data) != 48 || !bytes.Equal(out[0].Data[:9], []byte{0x3f, 0, 0, 0, 0, byte(n >> 16), byte(n >> 8), byte(n), 0}) {
			t.Errorf("with %d bytes: %x", n, out)
		}
	}
	s := New(plain(), nil, 5)
	if out, _ := s.In(api.PDU{Op: 0x3f, Data: make([]byte, 1<<24+3)}); len(out) != 1 || len(out[0].Data) != 48 {
		t.Errorf("with more bytes than a head can tell: %x", out)
	}
}

// P21.1: what has no task.

func TestNop(t *testing.T) {
	s := New(plain(), nil, 5)
	p := api.PDU{Op: 0x00, Flags: 0x12, Res: 3, Stat: 4, LUN: 5, Tag: 6, Words: [7]uint32{7, 5, 9, 10, 11, 12, 13}, Data: []byte("ping")}
	wantOut(t, s, p, api.PDU{Op: 0x20, Flags: 0x80, LUN: 5, Tag: 6, Words: [7]uint32{noTag, 1, 6, 21}, Data: []byte("ping")})
	p.Op, p.Data = 0x40, nil
	wantOut(t, s, p, api.PDU{Op: 0x20, Flags: 0x80, LUN: 5, Tag: 6, Words: [7]uint32{noTag, 2, 6, 21}})
	// More than a Segment comes back whole, too.
	s = New(login.Params{Segment: 1}, nil, 5)
	p.Data = filled(9000, 1)
	wantOut(t, s, p, api.PDU{Op: 0x20, Flags: 0x80, LUN: 5, Tag: 6, Words: [7]uint32{noTag, 1, 5, 20}, Data: p.Data})
}

func TestNopWithoutTag(t *testing.T) {
	s := New(plain(), nil, 5)
	wantOut(t, s, nopOut(noTag, 5))
	wantState(t, s, false, 0, 6)
	wantOut(t, s, atOnce(nopOut(noTag, 5)))
	wantOut(t, s, nopOut(noTag-1, 6), nopIn(noTag-1, 1, 7))
	// It is held as any other one.
	wantOut(t, s, nopOut(noTag, 8))
	wantOut(t, s, nopOut(2, 7), nopIn(2, 2, 8))
	wantState(t, s, false, 0, 9)
}

func wantText(t *testing.T, p login.Params, targets []string, keys, answer string) {
	t.Helper()
	s := New(p, targets, 5)
	for i := range uint32(2) {
		wantOut(t, s, api.PDU{Op: 0x04, Flags: 0x31, LUN: 3, Tag: 9, Words: [7]uint32{1, 5 + i, 3, 4, 5, 6, 7}, Data: []byte(keys)},
			numbers(api.PDU{Op: 0x24, Flags: 0x80, Tag: 9, Data: []byte(answer)}, 1+i, 6+i))
	}
}

func TestSendTargets(t *testing.T) {
	names := []string{"b", "a", "t"}
	told := "TargetName=b\x00TargetName=a\x00TargetName=t\x00"
	reject := "SendTargets=Reject\x00"
	wantText(t, discovery(), names, "SendTargets=All\x00", told)
	wantText(t, discovery(), nil, "SendTargets=All\x00", "")
	wantText(t, discovery(), []string{"a", "a", ""}, "SendTargets=All\x00", "TargetName=a\x00TargetName=a\x00TargetName=\x00")
	wantText(t, plain(), names, "SendTargets=\x00", "TargetName=t\x00")
	for _, value := range []string{"", "all", "ALL", "All ", "Al", "t", "a", "b", "No", "=All"} {
		wantText(t, discovery(), names, "SendTargets="+value+"\x00", reject)
	}
	for _, value := range []string{"All", "all", " ", "t", "a", "b", "="} {
		wantText(t, plain(), names, "SendTargets="+value+"\x00", reject)
	}
}

// A session that is no discovery session is told of its own target, as often as that is among the names, and of no other.
func TestOwnTarget(t *testing.T) {
	own := "TargetName=t\x00"
	for _, x := range []struct {
		names  []string
		wanted string
	}{
		{nil, ""}, {[]string{}, ""}, {[]string{""}, ""}, {[]string{"u"}, ""}, {[]string{"T", "tt", "t "}, ""},
		{[]string{"t"}, own}, {[]string{"u", "t"}, own}, {[]string{"t", "u"}, own},
		{[]string{"t", "t"}, own + own}, {[]string{"t", "u", "t"}, own + own},
	} {
		wantText(t, plain(), x.names, "SendTargets=\x00", x.wanted)
		wantText(t, plain(), x.names, "a=1\x00SendTargets=\x00b=2\x00", "a=NotUnderstood\x00"+x.wanted+"b=NotUnderstood\x00")
	}
	// A discovery session has a target of its own or not: it is told of all.
	named := discovery()
	named.Target = "t"
	wantText(t, named, []string{"u", "t"}, "SendTargets=All\x00", "TargetName=u\x00"+own)
	// The empty name is a name as any other is.
	wantText(t, login.Params{}, []string{"", "t"}, "SendTargets=\x00", "TargetName=\x00")
}

func TestOtherKeys(t *testing.T) {
	wantText(t, plain(), nil, "", "")
	wantText(t, discovery(), []string{"x"}, "a=1\x00SendTargets=All\x00b=\x00", "a=NotUnderstood\x00TargetName=x\x00b=NotUnderstood\x00")
	wantText(t, plain(), []string{"x", "t"}, "sendtargets=\x00SendTarget=\x00TargetName=t\x00SendTargets=\x00InitiatorName=i\x00HeaderDigest=None\x00",
		"sendtargets=NotUnderstood\x00SendTarget=NotUnderstood\x00TargetName=NotUnderstood\x00TargetName=t\x00InitiatorName=NotUnderstood\x00HeaderDigest=NotUnderstood\x00")
}

func TestNoText(t *testing.T) {
	var many strings.Builder
	for i := range 65 {
		many.WriteString("k" + strings.Repeat("x", i%60) + strings.Repeat("y", i/60) + "=\x00")
	}
	for _, keys := range []string{"SendTargets=All", "SendTargets\x00", "\x00", "=All\x00", "a=1\x00b", "SendTargets=All\x00x", "a=\x1f\x00",
		"a=\x7f\x00", "a b=1\x00", "SendTargets=All\x00SendTargets=All\x00", "a=1\x00b=2\x00a=3\x00", strings.Repeat("k", 64) + "=\x00",
		"a=" + strings.Repeat("v", 256) + "\x00", many.String(), strings.Repeat("a", 4097)} {
		wantText(t, discovery(), []string{"x"}, keys, "")
		wantText(t, plain(), []string{"x"}, keys, "")
	}
}

func TestLogout(t *testing.T) {
	s := New(plain(), nil, 5)
	wantIn(t, s, api.PDU{Op: 0x41, Flags: 0xc1, Tag: 1, Words: [7]uint32{8}}, nil, []Task{{Tag: 1, CDB: make([]byte, 16), Want: 8}})
	wantIn(t, s, api.PDU{Op: 0x41, Flags: 0xa1, Tag: 2, Words: [7]uint32{8}}, []api.PDU{{Op: 0x31, Flags: 0x80, Tag: 2, Words: [7]uint32{1, 1, 5, 20, 0, 0, 8}}}, nil)
	wantOut(t, s, nopOut(3, 7))
	wantOut(t, s, api.PDU{Op: 0x06, Flags: 0x81, Res: 1, Stat: 2, LUN: 3, Tag: 9, Words: [7]uint32{1, 6, 3, 4, 5, 6, 7}, Data: []byte("bye")})
	wantState(t, s, false, 2, 5)
	// It comes in its turn; what is held behind it is not done.
	wantOut(t, s, nopOut(4, 5), nopIn(4, 1, 6), api.PDU{Op: 0x26, Flags: 0x80, Tag: 9, Words: [7]uint32{0, 2, 7, 22}})
	wantState(t, s, true, 2, 7)

	wantOut(t, s, nopOut(5, 7))
	wantOut(t, s, atOnce(nopOut(5, 7)))
	wantOut(t, s, api.PDU{Op: 0x80})
	wantOut(t, s, api.PDU{Op: 0x46})
	wantOut(t, s, api.PDU{Op: 0x05, Flags: 0x80, Tag: 2, Words: [7]uint32{1}, Data: make([]byte, 8)})
	wantEnd(t, s, 1, api.Result{}, false)
	wantEnd(t, s, 2, api.Result{}, false)
	if out := s.Told(1, 0); len(out) != 0 {
		t.Errorf("Told = %x", out)
	}
	wantState(t, s, true, 2, 7)
	wantForget(t, s, 2, true)
	wantForget(t, s, 2, false)
	wantForget(t, s, 9, false)
	wantState(t, s, true, 1, 7)
	wantForget(t, s, 1, true)
	wantState(t, s, true, 0, 7)
}

func TestLogoutAtOnce(t *testing.T) {
	for _, p := range []login.Params{plain(), discovery(), {}} {
		s := New(p, nil, 5)
		wantOut(t, s, nopOut(3, 6))
		wantOut(t, s, api.PDU{Op: 0x46, Tag: noTag, Words: [7]uint32{0, 99}}, numbers(api.PDU{Op: 0x26, Flags: 0x80, Tag: noTag}, 1, 5))
		wantState(t, s, true, 0, 5)
		wantOut(t, s, nopOut(4, 5))
		wantState(t, s, true, 0, 5)
	}
}

func TestTaskFunctions(t *testing.T) {
	for _, p := range []login.Params{plain(), discovery()} {
		for flags := range 256 {
			s := New(p, nil, 5)
			request := api.PDU{Op: 0x02, Flags: byte(flags), Res: 1, Stat: 2, LUN: 3, Tag: 4, Words: [7]uint32{0xfedcba98, 5, 7, 8, 9, 10, 11}, Data: []byte("x")}
			wanted := []Task{{Tag: 4, LUN: 3, Func: byte(flags & 0x7f), Ref: 0xfedcba98}}
			wantIn(t, s, request, nil, wanted)
			wantState(t, s, false, 0, 6)
			// Its tag is nobody's: it may come again.
			wantIn(t, s, atOnce(request), nil, wanted)
			wantState(t, s, false, 0, 6)
		}
	}
}

// P21.2

func TestNil(t *testing.T) {
	var s *Session
	wantOut(t, s, nopOut(1, 0))
	wantOut(t, s, atOnce(nopOut(1, 0)))
	wantOut(t, s, api.PDU{Op: 0x80})
	wantOut(t, s, api.PDU{Op: 5})
	wantOut(t, s, api.PDU{Op: 6})
	wantEnd(t, s, 0, api.Result{}, true)
	if out := s.Told(0, 0); len(out) != 0 {
		t.Errorf("Told = %x", out)
	}
	wantForget(t, s, 0, false)
	wantState(t, s, false, 0, 0)
}

// P1

func TestZeroValue(t *testing.T) {
	for op := range 256 {
		s := &Session{}
		s.In(api.PDU{Op: byte(op), Words: [7]uint32{1}, Flags: 0xe0})
		s.In(api.PDU{Op: 5, Words: [7]uint32{1}, Data: []byte{1}})
		s.End(0, api.Result{Data: []byte{1, 2}}, true)
		s.Told(0, 0)
		s.Forget(0)
	}
}

// Memory

func TestTargetsNotKept(t *testing.T) {
	names := append(make([]string, 0, 3), "a", "b")
	s := New(discovery(), names, 5)
	names[0] = "x"
	names = append(names, "y")
	if names[2] != "y" || names[:2][1] != "b" {
		t.Errorf("New has changed the names: %v", names)
	}
	wantOut(t, s, api.PDU{Op: 0x44, Tag: 1, Data: []byte("SendTargets=All\x00")},
		numbers(api.PDU{Op: 0x24, Flags: 0x80, Tag: 1, Data: []byte("TargetName=a\x00TargetName=b\x00")}, 1, 5))
}

func TestHeldNotShared(t *testing.T) {
	s := New(plain(), nil, 5)
	data := append(make([]byte, 0, 16), "ping"...)
	p := nopOut(1, 6)
	p.Data = data
	wantOut(t, s, p)
	if !bytes.Equal(data[:16], append([]byte("ping"), make([]byte, 12)...)) {
		t.Errorf("In has changed what was handed in: %x", data[:16])
	}
	spoil(data)
	answer := nopIn(1, 2, 7)
	answer.Data = []byte("ping")
	wantOut(t, s, nopOut(2, 5), nopIn(2, 1, 6), answer)
}

func TestNopNotShared(t *testing.T) {
	s := New(plain(), nil, 5)
	p := atOnce(nopOut(1, 6))
	p.Data = []byte("ping")
	out, _ := s.In(p)
	spoil(p.Data)
	if string(out[0].Data) != "ping" {
		t.Errorf("the answer is %x", out)
	}
	spoil(out[0].Data)
	if string(p.Data) != "qjoh" {
		t.Errorf("what was handed in is %q", p.Data)
	}
}

// P2

func TestSameAgain(t *testing.T) {
	for range 3 {
		one, other := New(plain(), []string{"t"}, 5), New(plain(), []string{"t"}, 5)
		for _, p := range []api.PDU{nopOut(1, 6), {Op: 1, Flags: 0xe1, Tag: 3, Words: [7]uint32{9, 5}}, {Op: 4, Words: [7]uint32{0, 7}, Data: []byte("SendTargets=\x00")}} {
			a, tasksA := one.In(p)
			b, tasksB := other.In(p)
			if !alike(a, b) || !alikeTasks(tasksA, tasksB) {
				t.Errorf("%x, %v and %x, %v", a, tasksA, b, tasksB)
			}
		}
	}
}
