package sense

import (
	"bytes"
	"encoding/hex"
	"fmt"
	"math"
	"math/rand"
	"strings"
	"testing"

	"pallet/api"
)

// fieldHex tells the field bytes as the chapter says them, in base 16.
func fieldHex(s api.Sense) string {
	if !s.HasField {
		return "000000"
	}
	first := 0x80
	if s.InCmd {
		first += 0x40
	}
	if s.Bit != -1 {
		first += 0x08 + s.Bit
	}
	return fmt.Sprintf("%02x%04x", first, s.Field)
}

func fixedHex(s api.Sense) string {
	first := 0x70
	if s.HasInfo {
		first += 0x80
	}
	return fmt.Sprintf("%02x00%02x%08x0a00000000%04x00%s", first, s.Key, s.Info, s.Code, fieldHex(s))
}

func describedHex(s api.Sense) string {
	parts := ""
	if s.HasInfo {
		parts += fmt.Sprintf("000a8000%016x", s.Info)
	}
	if s.HasField {
		parts += "02060000" + fieldHex(s) + "00"
	}
	return fmt.Sprintf("72%02x%04x000000%02x", s.Key, s.Code, len(parts)/2) + parts
}

// inForm goes through senses in form: each thing that is told with its edges, and without it.
func inForm() []api.Sense {
	keys := []byte{0, 1, 5, 15}
	codes := []uint16{0, 1, 0x2400, 0xff00, 0xffff}
	var fields []api.Sense
	for _, field := range []int{0, 1, 255, 256, 0x8040, math.MaxUint16} {
		for bit := -1; bit <= 7; bit++ {
			for _, inCmd := range []bool{false, true} {
				fields = append(fields, api.Sense{HasField: true, Field: field, Bit: bit, InCmd: inCmd})
			}
		}
	}
	fields = append(fields, api.Sense{})
	var list []api.Sense
	for _, s := range fields {
		for _, s.Key = range keys {
			for _, s.Code = range codes {
				s.Info, s.HasInfo = 0, false
				list = append(list, s)
				s.HasInfo = true
				for _, s.Info = range []uint64{0, 7, 0x01020304, math.MaxUint32, math.MaxUint32 + 1, 0x0102030405060708, math.MaxUint64} {
					list = append(list, s)
				}
			}
		}
	}
	return list
}

// notInForm has of each sentence of the form one sense that breaks it alone.
func notInForm() []api.Sense {
	list := []api.Sense{
		{Key: 16},
		{Key: 255},
		{Info: 1},
		{Info: math.MaxUint64},
		{Field: 1},
		{Field: -1},
		{Bit: 1},
		{Bit: -1},
		{InCmd: true},
	}
	for _, field := range []int{-1, math.MinInt, math.MaxUint16 + 1, math.MaxInt} {
		list = append(list, api.Sense{HasField: true, Field: field})
	}
	for _, bit := range []int{-2, math.MinInt, 8, math.MaxInt} {
		list = append(list, api.Sense{HasField: true, Bit: bit})
	}
	return list
}

func wantBytes(t *testing.T, what string, p []byte, e api.Errno, wanted string) {
	t.Helper()
	if got := hex.EncodeToString(p); got != wanted || e != api.OK {
		t.Fatalf("%s = %s, %d; want %s", what, got, e, wanted)
	}
}

func wantRefused(t *testing.T, what string, p []byte, e, wanted api.Errno) {
	t.Helper()
	if len(p) != 0 || e != wanted {
		t.Errorf("%s = %x, %d; want %d", what, p, e, wanted)
	}
}

func wantSense(t *testing.T, p []byte, wanted api.Sense) {
	t.Helper()
	if s, e := Decode(p); s != wanted || e != api.OK {
		t.Fatalf("Decode(%x) = %+v, %d; want %+v", p, s, e, wanted)
	}
}

func wantNoSense(t *testing.T, p []byte) {
	t.Helper()
	if s, e := Decode(p); s != (api.Sense{}) || e != api.ErrForm {
		t.Errorf("Decode(%x) = %+v, %d; want ErrForm", p, s, e)
	}
}

// The chapter's examples.

func TestExamples(t *testing.T) {
	s := api.Sense{Key: 5, Code: 0x2400, Field: 2, Bit: 7, HasField: true, InCmd: true}
	p, e := Fixed(s)
	wantBytes(t, "Fixed", p, e, "70000500000000"+"0a00000000240000cf0002")
	wantSense(t, p, s)
	p, e = Described(s)
	wantBytes(t, "Described", p, e, "7205240000000008"+"02060000cf000200")
	wantSense(t, p, s)
	s = api.Sense{Key: 3, Code: 0x1100, Info: 7, HasInfo: true}
	p, e = Described(s)
	wantBytes(t, "Described", p, e, "720311000000000c"+"000a80000000000000000007")
	wantSense(t, p, s)
	wantNoSense(t, nil)
	wantNoSense(t, []byte{})
}

// P6.1.

func TestForm(t *testing.T) {
	for _, s := range inForm() {
		if !Form(s) {
			t.Fatalf("Form(%+v) = false", s)
		}
	}
	for _, s := range notInForm() {
		if Form(s) {
			t.Errorf("Form(%+v) = true", s)
		}
	}
}

func TestBytesOfSensesInForm(t *testing.T) {
	for _, s := range inForm() {
		p, e := Described(s)
		wantBytes(t, "Described", p, e, describedHex(s))
		p, e = Fixed(s)
		if s.Info > math.MaxUint32 {
			wantRefused(t, "Fixed", p, e, api.ErrRange)
		} else {
			wantBytes(t, "Fixed", p, e, fixedHex(s))
		}
	}
}

func TestSensesNotInFormHaveNoBytes(t *testing.T) {
	for _, s := range notInForm() {
		p, e := Fixed(s)
		wantRefused(t, "Fixed", p, e, api.ErrForm)
		p, e = Described(s)
		wantRefused(t, "Described", p, e, api.ErrForm)
	}
	p, e := Fixed(api.Sense{Key: 16, HasInfo: true, Info: math.MaxUint64})
	wantRefused(t, "Fixed with both faults", p, e, api.ErrForm)
}

// P6.2.

func TestDecodeOfBytesThatWereTold(t *testing.T) {
	for _, s := range inForm() {
		p, _ := Described(s)
		wantSense(t, p, s)
		if s.Info <= math.MaxUint32 {
			p, _ = Fixed(s)
			wantSense(t, p, s)
		}
	}
}

// told tells by the chapter's words alone whether bytes are a sense's: each thing is read where it must stand, and the bytes told anew.
func told(p []byte) bool {
	field := func(at int) api.Sense {
		s := api.Sense{HasField: true, Bit: -1, InCmd: p[at]&0x40 != 0, Field: int(p[at+1])*256 + int(p[at+2])}
		if p[at]&8 != 0 {
			s.Bit = int(p[at] & 7)
		}
		return s
	}
	number := func(from, to int) uint64 {
		v := uint64(0)
		for _, b := range p[from:to] {
			v = v*256 + uint64(b)
		}
		return v
	}
	var s api.Sense
	switch {
	case len(p) == 18 && (p[0] == 0x70 || p[0] == 0xf0):
		if p[15] != 0 {
			s = field(15)
		}
		s.Key, s.Code = p[2], uint16(number(12, 14))
		s.HasInfo, s.Info = p[0] == 0xf0, number(3, 7)
		return s.Key <= 15 && (s.HasInfo || s.Info == 0) && hex.EncodeToString(p) == fixedHex(s)
	case len(p) == 0 || p[0] != 0x72:
		return false
	case len(p) == 16 || len(p) == 28:
		s = field(len(p) - 4)
	case len(p) != 8 && len(p) != 20:
		return false
	}
	if len(p) >= 20 {
		s.HasInfo, s.Info = true, number(12, 20)
	}
	s.Key, s.Code = p[1], uint16(number(2, 4))
	return s.Key <= 15 && hex.EncodeToString(p) == describedHex(s)
}

// wantAsTold holds Decode against told, and its answer against the bytes.
func wantAsTold(t *testing.T, p []byte) {
	t.Helper()
	if !told(p) {
		wantNoSense(t, p)
		return
	}
	s, e := Decode(p)
	if own := hex.EncodeToString(p); e != api.OK || own != fixedHex(s) && own != describedHex(s) {
		t.Errorf("Decode(%x) = %+v, %d", p, s, e)
	}
}

// few has the bytes, in both formats, of senses with all sets of things that are told.
func few() [][]byte {
	var list [][]byte
	for _, s := range []api.Sense{
		{},
		{Key: 15, Code: 0xffff},
		{Key: 3, Code: 0x1100, HasInfo: true},
		{Key: 3, Code: 0x1100, HasInfo: true, Info: math.MaxUint32},
		{Key: 5, Code: 0x2400, HasField: true, Bit: -1},
		{Key: 5, Code: 0x2400, HasField: true, Bit: 0, InCmd: true},
		{Key: 5, Code: 0x2600, HasField: true, Bit: 7, Field: math.MaxUint16},
		{Key: 10, Code: 0x0d02, HasInfo: true, Info: 0x01020304, HasField: true, Bit: 3, Field: 258},
	} {
		fixed, _ := Fixed(s)
		described, _ := Described(s)
		list = append(list, fixed, described)
	}
	return list
}

func TestDecodeOfBytesWithOneOther(t *testing.T) {
	for _, p := range few() {
		for i := range p {
			own := p[i]
			for b := range 256 {
				p[i] = byte(b)
				wantAsTold(t, p)
			}
			p[i] = own
		}
	}
}

func TestDecodeOfBytesTooFewOrTooMany(t *testing.T) {
	for _, p := range few() {
		for n := range p {
			wantAsTold(t, p[:n:n])
		}
		for n := 1; n <= 20; n++ {
			wantNoSense(t, append(bytes.Clone(p), make([]byte, n)...))
		}
	}
}

func TestDecodeOfPartsInAnotherOrder(t *testing.T) {
	p, _ := Described(api.Sense{HasInfo: true, Info: 7, HasField: true, Field: 2, Bit: -1})
	turned := append(bytes.Clone(p[:8]), p[20:]...)
	wantNoSense(t, append(turned, p[8:20]...))
	twice := append(bytes.Clone(p), p[20:]...)
	twice[7] = 28
	wantNoSense(t, twice)
}

func TestDecodeOfAnyBytes(t *testing.T) {
	r := rand.New(rand.NewSource(6))
	list := few()
	for range 100000 {
		p := bytes.Clone(list[r.Intn(len(list))])
		for range r.Intn(4) {
			p[r.Intn(len(p))] = byte(r.Intn(256))
		}
		wantAsTold(t, p)
	}
	for n := range 300 {
		p := make([]byte, n)
		r.Read(p)
		wantAsTold(t, p)
	}
}

// P6.3.

const names = `0000 no additional sense information
0c00 write error
0d02 copy target device not reachable
1001 logical block guard check failed
1002 logical block application tag check failed
1003 logical block reference tag check failed
1100 unrecovered read error
1a00 parameter list length error
1d00 miscompare during verify operation
2000 invalid command operation code
2100 logical block address out of range
2400 invalid field in cdb
2500 logical unit not supported
2600 invalid field in parameter list
2608 too many segment descriptors
2700 write protected
2900 power on occurred
2a01 mode parameters changed
2a03 reservations preempted
2a04 reservations released
2a05 registrations preempted
2f00 commands cleared by another initiator`

func TestName(t *testing.T) {
	named := map[string]string{}
	for _, line := range strings.Split(names, "\n") {
		named[line[:4]] = line[5:]
	}
	for code := range math.MaxUint16 + 1 {
		if got, wanted := Name(uint16(code)), named[fmt.Sprintf("%04x", code)]; got != wanted {
			t.Errorf("Name(%04x) = %q, want %q", code, got, wanted)
		}
	}
}

// The rules on memory, P1 and P2.

func TestMemory(t *testing.T) {
	s := api.Sense{Key: 5, Code: 0x2400, Info: 9, HasInfo: true, Field: 2, Bit: 7, HasField: true}
	for _, tell := range []func(api.Sense) ([]byte, api.Errno){Fixed, Described} {
		first, _ := tell(s)
		own := bytes.Clone(first)
		room := first[:cap(first)]
		second, _ := tell(s)
		for i := range room {
			room[i] = 0xaa
		}
		if !bytes.Equal(second, own) {
			t.Errorf("an answer shares memory with an earlier one: %x", second)
		}
		third, _ := tell(s)
		if !bytes.Equal(third, own) {
			t.Errorf("what was told before is seen again: %x", third)
		}
	}
	p, _ := Described(s)
	whole := append(p, 1, 2, 3)
	own := bytes.Clone(whole)
	wantSense(t, whole[:len(p)], s)
	if !bytes.Equal(whole, own) {
		t.Errorf("Decode has changed its argument: %x", whole)
	}
}
