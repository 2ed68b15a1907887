package cdb

import (
	"encoding/hex"
	"fmt"
	"strings"

	"pallet/api"
)

// row is a line of the chapter's table: the bits that are looked at, byte by byte, and for each thing that is told the bits that tell it.
type row struct {
	bits string
	kind api.Kind
	told string // name=bits, with blanks between; bits behind the last one given are 0; a name alone holds always
}

const (
	at28 = " LBA=0000ffffffff Blocks=00000000000000ffff"
	at88 = " LBA=0000ffffffffffffffff Blocks=00000000000000000000ffffffff"
	prot = " Prot=00e0"
	fua  = " FUA=0008"
)

// table is the chapter's, with its short forms of bytes told in full.
var table = []row{
	{"000000000000", api.TestReady, ""},
	{"03010000ff00", api.RequestSense, "Long=0001 Alloc=00000000ff"},
	{"081fffffff00", api.Read, "LBA=001fffff Blocks=00000000ff"},
	{"0a1fffffff00", api.Write, "LBA=001fffff Blocks=00000000ff"},
	{"1201ffffff00", api.Inquiry, "EVPD=0001 Page=0000ff Alloc=000000ffff"},
	{"15110000ff00", api.ModeSelect, "Save=0001 Alloc=00000000ff"},
	{"1a08ff00ff00", api.ModeSense, "Control=0000c0 Page=00003f Alloc=00000000ff"},
	{"25000000000000000000", api.ReadCapacity, ""},
	{"28f8ffffffff00ffff00", api.Read, prot + fua + at28},
	{"2af8ffffffff00ffff00", api.Write, prot + fua + at28},
	{"2ef0ffffffff00ffff00", api.WriteVerify, prot + at28},
	{"2ff2ffffffff00ffff00", api.Verify, prot + at28 + " Bytes=0002"},
	{"3500ffffffff00ffff00", api.SyncCache, at28},
	{"41e8ffffffff00ffff00", api.WriteSame, prot + at28 + " Unmap=0008"},
	{"42000000000000ffff00", api.Unmap, "Alloc=00000000000000ffff"},
	{"55110000000000ffff00", api.ModeSelect, "Long Save=0001 Alloc=00000000000000ffff"},
	{"5a08ff00000000ffff00", api.ModeSense, "Long Control=0000c0 Page=00003f Alloc=00000000000000ffff"},
	{"5e1f0000000000ffff00", api.PRIn, "Service=001f Alloc=00000000000000ffff"},
	{"5f1f0f0000ffffffff00", api.PROut, "Service=001f Type=00000f Alloc=0000000000ffffffff"},
	{"831f0000000000000000ffffffff0000", api.Copy, "Alloc=00000000000000000000ffffffff"},
	{"88f8ffffffffffffffffffffffff0000", api.Read, prot + fua + at88},
	{"8af8ffffffffffffffffffffffff0000", api.Write, prot + fua + at88},
	{"89f8ffffffffffffffff000000ff0000", api.CompareWrite, prot + fua + " LBA=0000ffffffffffffffff Blocks=00000000000000000000000000ff"},
	{"9100ffffffffffffffffffffffff0000", api.SyncCache, at88},
	{"93e8ffffffffffffffffffffffff0000", api.WriteSame, prot + at88 + " Unmap=0008"},
	{"9e1f0000000000000000ffffffff0000", api.ReadCapacity, "Long Alloc=00000000000000000000ffffffff"},
	{"a00003000000ffffffff0000", api.ReportLuns, "Page=000003 Alloc=000000000000ffffffff"},
}

// services of the operations that tell one.
var services = map[byte][]byte{
	0x5e: {0, 1, 2, 3},
	0x5f: {0, 1, 2, 3, 4, 5, 6},
	0x83: {0},
	0x9e: {0x10},
}

func mustHex(text string) []byte {
	p, err := hex.DecodeString(text)
	if err != nil {
		panic(err)
	}
	return p
}

// rowOf tells the line of an operation; nil: there is none.
func rowOf(op byte) *row {
	for i := range table {
		if strings.HasPrefix(table[i].bits, fmt.Sprintf("%02x", op)) {
			return &table[i]
		}
	}
	return nil
}

// gather tells the number that the bits of p under a mask are, the highest first.
func gather(p, mask []byte) uint64 {
	v := uint64(0)
	for i, m := range mask {
		for bit := 7; bit >= 0; bit-- {
			if m>>bit&1 == 1 {
				v = v*2 + uint64(p[i]>>bit&1)
			}
		}
	}
	return v
}

// set lays a value in the field of that name.
func set(c *api.Cmd, name string, v uint64) {
	switch name {
	case "Long":
		c.Long = v == 1
	case "LBA":
		c.LBA = v
	case "Blocks":
		c.Blocks = v
	case "Alloc":
		c.Alloc = int(v)
	case "FUA":
		c.FUA = v == 1
	case "Prot":
		c.Prot = byte(v)
	case "Unmap":
		c.Unmap = v == 1
	case "EVPD":
		c.EVPD = v == 1
	case "Page":
		c.Page = byte(v)
	case "Control":
		c.Control = byte(v)
	case "Save":
		c.Save = v == 1
	case "Service":
		c.Service = byte(v)
	case "Type":
		c.Type = byte(v)
	case "Bytes":
		c.Bytes = v == 1
	default:
		panic("no field " + name)
	}
}

// command tells what a line says of bytes.
func (r *row) command(p []byte) api.Cmd {
	c := api.Cmd{Kind: r.kind}
	for _, told := range strings.Fields(r.told) {
		name, mask, some := strings.Cut(told, "=")
		if !some {
			set(&c, name, 1)
			continue
		}
		set(&c, name, gather(p, mustHex(mask)))
	}
	if (p[0] == 0x08 || p[0] == 0x0a) && p[4] == 0 {
		c.Blocks = 256
	}
	return c
}

func faultOf(field, bit int) api.Sense {
	return api.Sense{Key: 5, Code: 0x2400, Field: field, Bit: bit, HasField: true, InCmd: true}
}

// modelParse is P8.2 word by word, with the bits looked at one by one.
func modelParse(p []byte) (api.Cmd, api.Sense, bool) {
	no := api.Cmd{}
	if len(p) == 0 {
		return no, faultOf(0, -1), false
	}
	list, tells := services[p[0]]
	if tells && len(p) == 1 {
		return no, faultOf(1, -1), false
	}
	r := rowOf(p[0])
	if r == nil {
		return no, api.Sense{Key: 5, Code: 0x2000, Field: 0, Bit: 7, HasField: true, InCmd: true}, false
	}
	bits := mustHex(r.bits)
	if len(p) < len(bits) {
		return no, faultOf(len(p), -1), false
	}
	for i, m := range bits {
		for bit := 7; bit >= 0; bit-- {
			if i > 0 && p[i]>>bit&1 == 1 && m>>bit&1 == 0 {
				return no, faultOf(i, bit), false
			}
		}
	}
	if tells && !strings.Contains(string(list), string(p[1:2])) {
		return no, faultOf(1, 4), false
	}
	switch {
	case p[0] == 0x12 && p[1]%2 == 0 && p[2] != 0:
		return no, faultOf(2, 7), false
	case (p[0] == 0x15 || p[0] == 0x55) && p[1]&16 == 0:
		return no, faultOf(1, 4), false
	case p[0] == 0xa0 && p[2] == 3:
		return no, faultOf(2, 1), false
	}
	c := r.command(p)
	if first := map[byte]int{0x28: 7, 0x2a: 7, 0x2e: 7, 0x2f: 7, 0x88: 10, 0x8a: 10}[p[0]]; first != 0 && c.Blocks > 256 {
		return no, faultOf(first, 7), false
	}
	return c, api.Sense{}, true
}
