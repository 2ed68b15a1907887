package pdu

import (
	"bytes"
	"math/rand"
	"testing"

	"pallet/api"
)

func TestOperations(t *testing.T) {
	for _, x := range []struct {
		got, wanted byte
	}{
		{NopOut, 0x00}, {Command, 0x01}, {TaskReq, 0x02}, {LoginReq, 0x03}, {TextReq, 0x04}, {DataOut, 0x05}, {LogoutReq, 0x06},
		{NopIn, 0x20}, {Response, 0x21}, {TaskResp, 0x22}, {LoginResp, 0x23}, {TextResp, 0x24}, {DataIn, 0x25}, {LogoutRsp, 0x26},
		{R2T, 0x31}, {Reject, 0x3f},
	} {
		if x.got != x.wanted {
			t.Errorf("%02x; want %02x", x.got, x.wanted)
		}
	}
	// A variable that is made of one is a byte.
	op := Reject
	var _ *byte = &op
}

func example() api.PDU { return api.PDU{Op: 1, Tag: 5, Data: []byte{0x61}} }

func exampleBytes() []byte {
	return mustHex("01000000 00000001 00000000 00000000 00000005" +
		"00000000 00000000 00000000 00000000 00000000 00000000 00000000" + "61000000")
}

func TestExample(t *testing.T) {
	wantEncode(t, example(), false, false, exampleBytes())
	wantDecode(t, exampleBytes(), false, false, example(), 52)
	if p, e := Encode(example(), true, true); len(p) != 60 || e != api.OK {
		t.Errorf("with both sums %d bytes, %d", len(p), e)
	}
	wantFault(t, "the first 51", exampleBytes()[:51], false, false, api.ErrNone)
	p := exampleBytes()
	p[51] = 1
	wantFault(t, "the last byte 01", p, false, false, api.ErrForm)
}

// P17.1

func TestEncodeByHand(t *testing.T) {
	p := api.PDU{Op: 0x01, Flags: 0x02, Res: 0x03, Stat: 0x04, LUN: 0x05, Tag: 0x06070809,
		Words: [7]uint32{0x0a0b0c0d, 0x0e0f1011, 0x12131415, 0x16171819, 0x1a1b1c1d, 0x1e1f2021, 0x22232425},
		Data:  []byte{0x26, 0x27, 0x28, 0x29, 0x2a}}
	head := mustHex("01020304 00000005 0005 000000000000 06070809" +
		"0a0b0c0d 0e0f1011 12131415 16171819 1a1b1c1d 1e1f2021 22232425")
	body := mustHex("26272829 2a000000")
	for _, x := range []struct {
		headers, data bool
		parts         [][]byte
	}{
		{false, false, [][]byte{head, body}},
		{true, false, [][]byte{head, sumOf(head), body}},
		{false, true, [][]byte{head, body, sumOf(body)}},
		{true, true, [][]byte{head, sumOf(head), body, sumOf(body)}},
	} {
		wantEncode(t, p, x.headers, x.data, bytes.Join(x.parts, nil))
	}
	if known := mustHex("8a9136aa"); !bytes.Equal(sumOf(make([]byte, 32)), known) {
		t.Errorf("the sum of 32 bytes 0 is %x", sumOf(make([]byte, 32)))
	}
}

func TestNoData(t *testing.T) {
	for _, none := range [][]byte{nil, {}, make([]byte, 0, 9)} {
		for _, s := range sums() {
			size := 48
			if s[0] {
				size = 52
			}
			p, e := Encode(api.PDU{Op: 0x20, Data: none}, s[0], s[1])
			if len(p) != size || e != api.OK {
				t.Fatalf("without data %d bytes, %d", len(p), e)
			}
			wantDecode(t, p, s[0], s[1], api.PDU{Op: 0x20}, size)
		}
	}
}

func TestDataOfAllLengths(t *testing.T) {
	for _, n := range lengths() {
		for _, s := range sums() {
			p := full(n)
			wanted := modelBytes(p, s[0], s[1], 0)
			wantEncode(t, p, s[0], s[1], wanted)
			wantDecode(t, wanted, s[0], s[1], p, len(wanted))
			// What lies behind a PDU isn't looked at.
			wantDecode(t, append(bytes.Clone(wanted), 0xff), s[0], s[1], p, len(wanted))
			wantDecode(t, append(bytes.Clone(wanted), wanted...), s[0], s[1], p, len(wanted))
		}
	}
}

func TestDataTooLong(t *testing.T) {
	for _, n := range []int{api.MaxData + 1, api.MaxData + 2, api.MaxData + 4, 2 * api.MaxData, 1 << 16, 1<<24 - 1, 1 << 24, 1<<24 + 1} {
		for _, s := range sums() {
			if p, e := Encode(api.PDU{Op: 1, Tag: 5, Data: make([]byte, n)}, s[0], s[1]); len(p) != 0 || e != api.ErrLong {
				t.Errorf("Encode of %d bytes = %d bytes, %d", n, len(p), e)
			}
		}
	}
}

func TestEncodeTakesAllValues(t *testing.T) {
	ones := api.PDU{Op: 0xff, Flags: 0xff, Res: 0xff, Stat: 0xff, LUN: 0xff, Tag: 0xffffffff, Data: bytes.Repeat([]byte{0xff}, 7)}
	for i := range ones.Words {
		ones.Words[i] = 0xffffffff
	}
	for _, p := range []api.PDU{{}, ones} {
		for _, s := range sums() {
			wanted := modelBytes(p, s[0], s[1], 0)
			wantEncode(t, p, s[0], s[1], wanted)
			wantDecode(t, wanted, s[0], s[1], p, len(wanted))
		}
	}
}

// P17.2

// A beginning of a PDU is none yet, wherever it ends: not even by one byte.
func TestBeginnings(t *testing.T) {
	for _, n := range []int{0, 1, 3, 4, 5, 50} {
		for _, s := range sums() {
			p := modelBytes(full(n), s[0], s[1], 0)
			for cut := range p {
				wantFault(t, "a beginning", p[:cut:cut], s[0], s[1], api.ErrNone)
				// What the memory has behind p isn't p's.
				wantFault(t, "a beginning with room", p[:cut], s[0], s[1], api.ErrNone)
			}
		}
	}
	for _, s := range sums() {
		p := modelBytes(full(api.MaxData), s[0], s[1], 0)
		wantFault(t, "all but one byte", p[:len(p)-1], s[0], s[1], api.ErrNone)
		wantFault(t, "nothing", nil, s[0], s[1], api.ErrNone)
	}
}

// reseal puts the right sum of a head behind it.
func reseal(p []byte) { copy(p[48:52], sumOf(p[:48])) }

// A head that isn't in form is told as soon as the head is whole.
func TestBytesThatMustBeZero(t *testing.T) {
	for _, at := range []int{4, 8, 10, 11, 12, 13, 14, 15} {
		for bit := range 8 {
			for _, s := range sums() {
				p := modelBytes(full(6), s[0], s[1], 0)
				p[at] |= 1 << bit
				end := 48
				if s[0] {
					reseal(p)
					end = 52
				}
				wantFault(t, "a byte that must be 0", p, s[0], s[1], api.ErrForm)
				wantFault(t, "a head alone", p[:end], s[0], s[1], api.ErrForm)
				wantFault(t, "a head that isn't whole", p[:end-1], s[0], s[1], api.ErrNone)
			}
		}
	}
}

func TestBytesThatMayBeAnything(t *testing.T) {
	for at := range 48 {
		if at >= 4 && at <= 8 || at >= 10 && at <= 15 {
			continue
		}
		for bit := range 8 {
			p := modelBytes(full(6), false, false, 0)
			p[at] ^= 1 << bit
			got, n, e := Decode(p, false, false)
			if n != len(p) || e != api.OK {
				t.Fatalf("with another byte %d: %d, %d", at, n, e)
			}
			wantEncode(t, got, false, false, p)
		}
	}
}

func TestLengthsInTheHead(t *testing.T) {
	for _, x := range []struct {
		length string
		wanted api.Errno
	}{
		{"001fff", api.OK},
		{"002000", api.OK},
		{"002001", api.ErrForm},
		{"002004", api.ErrForm},
		{"003000", api.ErrForm},
		{"00ffff", api.ErrForm},
		{"010000", api.ErrForm},
		{"010001", api.ErrForm},
		{"800000", api.ErrForm},
		{"ffffff", api.ErrForm},
	} {
		p := make([]byte, 48+1<<24)
		p[0] = 0x05
		copy(p[5:], mustHex(x.length))
		_, n, e := Decode(p, false, false)
		if e != x.wanted || (e == api.OK) != (n == 48+8192) {
			t.Errorf("the length %s: %d, %d", x.length, n, e)
		}
		if x.wanted == api.ErrForm {
			wantFault(t, "a length too great, the head alone", p[:48], false, false, api.ErrForm)
		} else {
			wantFault(t, "a length that may be, the head alone", p[:48], false, false, api.ErrNone)
		}
	}
}

func TestWrongSumOfTheHead(t *testing.T) {
	for _, data := range []bool{false, true} {
		whole := modelBytes(full(6), true, data, 0)
		for at := range 52 {
			for bit := range 8 {
				p := bytes.Clone(whole)
				p[at] ^= 1 << bit
				wantFault(t, "a turned bit of the head", p, true, data, api.ErrSum)
				// The sum is told ahead of a body that isn't whole, but not of a head that isn't.
				wantFault(t, "a turned bit, the head alone", p[:52], true, data, api.ErrSum)
				wantFault(t, "a turned bit, no whole head", p[:51], true, data, api.ErrNone)
			}
		}
	}
}

func TestWrongSumOfTheBody(t *testing.T) {
	for _, headers := range []bool{false, true} {
		for _, n := range []int{1, 2, 3, 4, 7, 8} {
			whole := modelBytes(full(n), headers, true, 0)
			from := len(whole) - 4 - (n+3)/4*4
			for at := from; at < len(whole); at++ {
				for bit := range 8 {
					p := bytes.Clone(whole)
					p[at] ^= 1 << bit
					wantFault(t, "a turned bit of the body", p, headers, true, api.ErrSum)
					wantFault(t, "a turned bit, no whole body", p[:len(p)-1], headers, true, api.ErrNone)
				}
			}
		}
	}
}

func TestBytesBehindTheData(t *testing.T) {
	for _, s := range sums() {
		for n := range 9 {
			for fill := 1; fill < 256; fill += fill {
				p := modelBytes(full(n), s[0], s[1], byte(fill))
				if n%4 == 0 {
					wantDecode(t, p, s[0], s[1], full(n), len(p))
				} else {
					wantFault(t, "a byte behind the data", p, s[0], s[1], api.ErrForm)
					wantFault(t, "a byte behind the data, no whole body", p[:len(p)-1], s[0], s[1], api.ErrNone)
				}
			}
		}
	}
	// Each of the bytes alone.
	for n := 1; n < 4; n++ {
		for at := 48 + n; at < 52; at++ {
			p := modelBytes(full(n), false, false, 0)
			p[at] = 0x80
			wantFault(t, "one byte behind the data", p, false, false, api.ErrForm)
		}
	}
}

// Where several faults apply, the first of the chapter's goes first.
func TestWhichFaultGoesFirst(t *testing.T) {
	// Everything is wrong: the sum of the head, its form, the sum of the body, the bytes behind the data.
	p := modelBytes(full(5), true, true, 1)
	p[4], p[52] = 1, p[52]+1
	wantFault(t, "all wrong, no whole head", p[:51], true, true, api.ErrNone)
	wantFault(t, "all wrong, the head alone", p[:52], true, true, api.ErrSum)
	wantFault(t, "all wrong", p, true, true, api.ErrSum)
	reseal(p)
	wantFault(t, "the head's form, no whole body", p[:52], true, true, api.ErrForm)
	wantFault(t, "the head's form and all of the body", p, true, true, api.ErrForm)
	p[4] = 0
	reseal(p)
	wantFault(t, "all of the body, not whole", p[:len(p)-1], true, true, api.ErrNone)
	wantFault(t, "all of the body", p, true, true, api.ErrSum)
	copy(p[60:], sumOf(p[52:60]))
	wantFault(t, "the bytes behind the data", p, true, true, api.ErrForm)
	p[57], p[58], p[59] = 0, 0, 0
	copy(p[60:], sumOf(p[52:60]))
	if _, n, e := Decode(p, true, true); n != 64 || e != api.OK {
		t.Errorf("all mended: %d, %d", n, e)
	}
	// A length too great stands in a head whose sum is wrong, and the other way about.
	p = modelBytes(full(5), true, true, 0)
	p[5] = 1
	wantFault(t, "a length too great, a wrong sum", p, true, true, api.ErrSum)
	reseal(p)
	wantFault(t, "a length too great, no whole body", p, true, true, api.ErrForm)
}

func TestOtherSumsThanThereAre(t *testing.T) {
	for _, n := range []int{0, 1, 4, 30} {
		for _, has := range sums() {
			for _, asked := range sums() {
				wantAsModel(t, modelBytes(full(n), has[0], has[1], 0), asked[0], asked[1])
			}
		}
	}
}

func TestAnyBytes(t *testing.T) {
	r := rand.New(rand.NewSource(17))
	count := map[api.Errno]int{}
	for range 40000 {
		s := sums()[r.Intn(4)]
		p := modelBytes(anyPDU(r), s[0], s[1], byte(r.Intn(16)/15))
		for range r.Intn(3) {
			p[r.Intn(len(p))] ^= byte(1 << r.Intn(8))
		}
		if s[0] && r.Intn(2) == 0 {
			reseal(p)
		}
		switch r.Intn(6) {
		case 0:
			p = p[:r.Intn(len(p)+1)]
		case 1:
			p = append(p, filled(r.Intn(60), r.Int63())...)
		}
		ahead := bytes.Clone(p)
		count[wantAsModel(t, p, s[0], s[1])]++
		wantAsModel(t, p, s[0], s[1])
		if !bytes.Equal(p, ahead) {
			t.Fatalf("%x was changed to %x", ahead, p)
		}
	}
	for _, e := range []api.Errno{api.OK, api.ErrForm, api.ErrSum, api.ErrNone} {
		if count[e] < 1000 {
			t.Errorf("only %d answers %d", count[e], e)
		}
	}
	for range 20000 {
		p := filled(r.Intn(200), r.Int63())
		s := sums()[r.Intn(4)]
		wantAsModel(t, p, s[0], s[1])
	}
}

func TestAnyPDUThereAndBack(t *testing.T) {
	r := rand.New(rand.NewSource(18))
	for range 10000 {
		p, s := anyPDU(r), sums()[r.Intn(4)]
		wanted := modelBytes(p, s[0], s[1], 0)
		wantEncode(t, p, s[0], s[1], wanted)
		wantDecode(t, wanted, s[0], s[1], p, len(wanted))
	}
}

// Memory.

func TestMemoryOfEncode(t *testing.T) {
	for _, n := range []int{0, 1, 3, 4, 20} {
		for _, s := range sums() {
			wanted := modelBytes(full(n), s[0], s[1], 0)
			p := full(n)
			room := append(p.Data, 1, 2, 3, 4, 5)
			p.Data = room[:n]
			ahead := bytes.Clone(room)
			first, _ := Encode(p, s[0], s[1])
			second, _ := Encode(p, s[0], s[1])
			if !bytes.Equal(room, ahead) {
				t.Fatalf("the data %x became %x", ahead, room)
			}
			spoil(room)
			spoil(first)
			if !bytes.Equal(second, wanted) {
				t.Fatalf("Encode shares memory with its argument or an earlier answer: %x", second)
			}
			spoil(second)
			if !bytes.Equal(room[n:], []byte{2, 3, 4, 5, 6}) {
				t.Fatalf("an answer of Encode shares memory with its argument: %x", room)
			}
		}
	}
}

func TestMemoryOfDecode(t *testing.T) {
	for _, n := range []int{0, 1, 3, 4, 20} {
		for _, s := range sums() {
			p := modelBytes(full(n), s[0], s[1], 0)
			size := len(p)
			room := append(p, 1, 2, 3)
			ahead := bytes.Clone(room)
			first, _, _ := Decode(room[:size], s[0], s[1])
			second, _, _ := Decode(room[:size], s[0], s[1])
			spoil(first.Data)
			if !bytes.Equal(room, ahead) {
				t.Fatalf("%x became %x", ahead, room)
			}
			spoil(room)
			if !alike(second, full(n)) {
				t.Fatalf("Decode shares memory with its argument or an earlier answer: %x", second)
			}
		}
	}
}
