package pdu

import (
	"bytes"
	"encoding/binary"
	"encoding/hex"
	"hash/crc32"
	"math/rand"
	"strings"
	"testing"

	"pallet/api"
)

// mustHex tells the bytes of a text in base 16; blanks are for the eye.
func mustHex(text string) []byte {
	p, err := hex.DecodeString(strings.ReplaceAll(text, " ", ""))
	if err != nil {
		panic(err)
	}
	return p
}

// sumOf tells CRC32C as four bytes, by the library's ways.
func sumOf(p []byte) []byte {
	return binary.BigEndian.AppendUint32(nil, crc32.Checksum(p, crc32.MakeTable(crc32.Castagnoli)))
}

// headBytes is a head as it lies in bytes, also one that isn't in form.
type headBytes struct {
	Op, Flags, Res, Stat byte
	Four                 byte
	Length               [3]byte
	Eight                byte
	LUN                  byte
	Six                  [6]byte
	Tag                  uint32
	Words                [7]uint32
}

// modelBytes tells a PDU's bytes by the chapter's words; fill stands where 0 must stand behind the data.
func modelBytes(p api.PDU, headers, data bool, fill byte) []byte {
	n := len(p.Data)
	var out bytes.Buffer
	binary.Write(&out, binary.BigEndian, headBytes{
		Op: p.Op, Flags: p.Flags, Res: p.Res, Stat: p.Stat,
		Length: [3]byte{byte(n / 65536), byte(n / 256), byte(n)},
		LUN:    p.LUN, Tag: p.Tag, Words: p.Words,
	})
	if headers {
		out.Write(sumOf(out.Bytes()))
	}
	body := bytes.Clone(p.Data)
	for len(body)%4 != 0 {
		body = append(body, fill)
	}
	out.Write(body)
	if data && len(body) > 0 {
		out.Write(sumOf(body))
	}
	return out.Bytes()
}

// modelDecode is Decode, told anew: the first of the chapter's faults, one behind the other.
func modelDecode(p []byte, headers, data bool) (api.PDU, int, api.Errno) {
	var none api.PDU
	at := 48
	if headers {
		at = 52
	}
	if len(p) < at {
		return none, 0, api.ErrNone
	}
	if headers && !bytes.Equal(p[48:52], sumOf(p[:48])) {
		return none, 0, api.ErrSum
	}
	var h headBytes
	binary.Read(bytes.NewReader(p), binary.BigEndian, &h)
	length := int(h.Length[0])*65536 + int(h.Length[1])*256 + int(h.Length[2])
	if length > 8192 || h.Four != 0 || h.Eight != 0 || h.Six != [6]byte{} {
		return none, 0, api.ErrForm
	}
	size := (length + 3) / 4 * 4
	end := at + size
	if data && length > 0 {
		end += 4
	}
	if len(p) < end {
		return none, 0, api.ErrNone
	}
	if data && length > 0 && !bytes.Equal(p[at+size:end], sumOf(p[at:at+size])) {
		return none, 0, api.ErrSum
	}
	for _, b := range p[at+length : at+size] {
		if b != 0 {
			return none, 0, api.ErrForm
		}
	}
	return api.PDU{Op: h.Op, Flags: h.Flags, Res: h.Res, Stat: h.Stat, LUN: h.LUN, Tag: h.Tag, Words: h.Words,
		Data: bytes.Clone(p[at : at+length])}, end, api.OK
}

// alike holds PDUs against each other; no data and nil data are the same.
func alike(a, b api.PDU) bool {
	return a.Op == b.Op && a.Flags == b.Flags && a.Res == b.Res && a.Stat == b.Stat && a.LUN == b.LUN &&
		a.Tag == b.Tag && a.Words == b.Words && bytes.Equal(a.Data, b.Data)
}

// filled tells n bytes that differ from place to place and from seed to seed.
func filled(n int, seed int64) []byte {
	p := make([]byte, n)
	rand.New(rand.NewSource(seed)).Read(p)
	return p
}

// full tells a PDU of which each byte is another one, with n bytes of data.
func full(n int) api.PDU {
	return api.PDU{Op: 0x01, Flags: 0x82, Res: 0x13, Stat: 0x24, LUN: 0x35, Tag: 0x46474849,
		Words: [7]uint32{0x50515253, 0x60616263, 0x70717273, 0x80818283, 0x90919293, 0xa0a1a2a3, 0xb0b1b2b3},
		Data:  filled(n, int64(n))}
}

func anyPDU(r *rand.Rand) api.PDU {
	p := api.PDU{Op: byte(r.Uint32()), Flags: byte(r.Uint32()), Res: byte(r.Uint32()), Stat: byte(r.Uint32()),
		LUN: byte(r.Uint32()), Tag: r.Uint32()}
	for i := range p.Words {
		p.Words[i] = r.Uint32() >> r.Intn(32)
	}
	p.Data = make([]byte, r.Intn(4)*r.Intn(20))
	r.Read(p.Data)
	return p
}

// sums has all four ways in which sums may be there.
func sums() [][2]bool {
	return [][2]bool{{false, false}, {false, true}, {true, false}, {true, true}}
}

// lengths has how many bytes data may have, at every edge.
func lengths() []int {
	return []int{0, 1, 2, 3, 4, 5, 6, 7, 8, 9, 47, 48, 255, 256, 257, 4095, 4096,
		api.MaxData - 4, api.MaxData - 3, api.MaxData - 2, api.MaxData - 1, api.MaxData}
}

// spoil writes over bytes and their spare room; twice is not as if never.
func spoil(p []byte) {
	p = p[:cap(p)]
	for i := range p {
		p[i]++
	}
}

func wantEncode(t *testing.T, p api.PDU, headers, data bool, wanted []byte) {
	t.Helper()
	if got, e := Encode(p, headers, data); !bytes.Equal(got, wanted) || e != api.OK {
		t.Fatalf("Encode(%x, %v, %v) = %x, %d; want %x", p, headers, data, got, e, wanted)
	}
}

func wantDecode(t *testing.T, p []byte, headers, data bool, wanted api.PDU, size int) {
	t.Helper()
	if got, n, e := Decode(p, headers, data); !alike(got, wanted) || n != size || e != api.OK {
		t.Fatalf("Decode(%x, %v, %v) = %x, %d, %d; want %x, %d", p, headers, data, got, n, e, wanted, size)
	}
}

func wantFault(t *testing.T, what string, p []byte, headers, data bool, wanted api.Errno) {
	t.Helper()
	if got, n, e := Decode(p, headers, data); !alike(got, api.PDU{}) || n != 0 || e != wanted {
		t.Fatalf("Decode of %s (%x, %v, %v) = %x, %d, %d; want %d", what, p, headers, data, got, n, e, wanted)
	}
}

// wantAsModel tells what both Decodes answer.
func wantAsModel(t *testing.T, p []byte, headers, data bool) api.Errno {
	t.Helper()
	wanted, size, e := modelDecode(p, headers, data)
	if e == api.OK {
		wantDecode(t, p, headers, data, wanted, size)
	} else {
		wantFault(t, "any bytes", p, headers, data, e)
	}
	return e
}
