package xcopy

import (
	"bytes"
	"encoding/binary"
	"encoding/hex"
	"math/rand"
	"slices"
	"strings"
	"testing"

	"pallet/api"
	"pallet/sbc"
	"pallet/store"
	"pallet/world"
)

// mustHex tells the bytes of a text in base 16; blanks are for the eye.
func mustHex(text string) []byte {
	p, err := hex.DecodeString(strings.ReplaceAll(text, " ", ""))
	if err != nil {
		panic(err)
	}
	return p
}

func faultAt(f int) api.Sense {
	return api.Sense{Key: 5, Code: 0x2600, Field: f, Bit: -1, HasField: true}
}

func shortSense() api.Sense { return api.Sense{Key: 5, Code: 0x1a00} }

func manySense() api.Sense { return api.Sense{Key: 5, Code: 0x2608} }

// What the parameters are, as the library reads them.

type wireHead struct {
	Zero  uint16
	Units uint16
	Gap   uint32
	Segs  uint32
	End   uint32
}

type wireUnit struct {
	Head   [8]byte
	Serial [20]byte
	Zero   byte
	Size   [3]byte
}

type wireSeg struct {
	Head     [4]byte
	From, To uint16
	Gap      uint16
	Blocks   uint16
	Src, Dst uint64
}

func rightUnit() wireUnit {
	return wireUnit{Head: [8]byte(mustHex("e400000002010014")), Serial: [20]byte(bytes.Repeat([]byte{' '}, 20)), Size: [3]byte{0, 0, 16}}
}

// modelBytes tells the parameters of a list, which must be one that has some.
func modelBytes(l List) []byte {
	var out bytes.Buffer
	binary.Write(&out, binary.BigEndian, wireHead{Units: uint16(32 * len(l.Units)), Segs: uint32(28 * len(l.Segs))})
	for _, serial := range l.Units {
		u := rightUnit()
		copy(u.Serial[:], serial)
		binary.Write(&out, binary.BigEndian, u)
	}
	for _, s := range l.Segs {
		binary.Write(&out, binary.BigEndian, wireSeg{[4]byte{2, 0, 0, 24}, uint16(s.From), uint16(s.To), 0, uint16(s.Blocks), s.Src, s.Dst})
	}
	return out.Bytes()
}

// modelParse is Parse, told as a list of rules, each with what it tells if it is broken.
func modelParse(p []byte) (List, api.Sense, bool) {
	if len(p) == 0 {
		return List{}, api.Sense{}, true
	}
	if len(p) < 16 {
		return List{}, shortSense(), false
	}
	var head wireHead
	in := bytes.NewReader(p)
	binary.Read(in, binary.BigEndian, &head)
	units, segs := int(head.Units)/32, int(head.Segs)/28
	if why, ok := firstBroken([]rule{
		{head.Zero == 0, faultAt(0)},
		{head.Gap == 0, faultAt(4)},
		{head.End == 0, faultAt(12)},
		{units*32 == int(head.Units), faultAt(2)},
		{segs*28 == int(head.Segs), faultAt(8)},
		{len(p) == 16+32*units+28*segs, shortSense()},
		{segs <= 8, manySense()},
		{units <= 8, manySense()},
	}); !ok {
		return List{}, why, false
	}
	var l List
	var rules []rule
	for i := range units {
		var u wireUnit
		binary.Read(in, binary.BigEndian, &u)
		at := 16 + 32*i
		for j, b := range rightUnit().Head {
			rules = append(rules, rule{u.Head[j] == b, faultAt(at + j)})
		}
		rules = append(rules, rule{u.Zero == 0, faultAt(at + 28)}, rule{u.Size == [3]byte{2: 16}, faultAt(at + 29)})
		serial := string(u.Serial[:])
		for strings.HasSuffix(serial, " ") {
			serial = serial[:len(serial)-1]
		}
		l.Units = append(l.Units, serial)
	}
	for i := range segs {
		var s wireSeg
		binary.Read(in, binary.BigEndian, &s)
		at := 16 + 32*units + 28*i
		rules = append(rules,
			rule{s.Head == [4]byte{2, 0, 0, 0x18}, faultAt(at)},
			rule{s.Gap == 0, faultAt(at + 8)},
			rule{int(s.From) < units, faultAt(at + 4)},
			rule{int(s.To) < units, faultAt(at + 6)},
			rule{s.Blocks <= 256, faultAt(at + 10)})
		l.Segs = append(l.Segs, Seg{int(s.From), int(s.To), int(s.Blocks), s.Src, s.Dst})
	}
	if why, ok := firstBroken(rules); !ok {
		return List{}, why, false
	}
	return l, api.Sense{}, true
}

type rule struct {
	holds bool
	why   api.Sense
}

func firstBroken(rules []rule) (api.Sense, bool) {
	for _, r := range rules {
		if !r.holds {
			return r.why, false
		}
	}
	return api.Sense{}, true
}

func alikeLists(a, b List) bool {
	return slices.Equal(a.Units, b.Units) && slices.Equal(a.Segs, b.Segs)
}

// wantAsModel holds Parse of p against the model, and tells its sense.
func wantAsModel(t *testing.T, p []byte) api.Sense {
	t.Helper()
	l, why, ok := Parse(p)
	m, wanted, good := modelParse(p)
	if !alikeLists(l, m) || why != wanted || ok != good {
		t.Fatalf("Parse(%x) = %+v, %+v, %v; want %+v, %+v, %v", p, l, why, ok, m, wanted, good)
	}
	return why
}

// anyList tells a list that has parameters.
func anyList(r *rand.Rand) List {
	var l List
	for range r.Intn(9) {
		p := make([]byte, r.Intn(21))
		for i := range p {
			p[i] = " aZ\x00\xff"[r.Intn(5)]
		}
		l.Units = append(l.Units, strings.TrimRight(string(p), " "))
	}
	if len(l.Units) == 0 {
		return l
	}
	for range r.Intn(9) {
		s := Seg{r.Intn(len(l.Units)), r.Intn(len(l.Units)), r.Intn(257), r.Uint64() >> r.Intn(64), r.Uint64() >> r.Intn(64)}
		if r.Intn(8) == 0 {
			s.Blocks = 256
		}
		l.Segs = append(l.Segs, s)
	}
	return l
}

// Devices, and how copies between them go: blocks' data as lists of single bytes, for devices without failing files.

// world of devices: the model keeps the byte that each block is filled with.
type modelDev struct {
	serial string
	blocks []byte
	shut   byte
}

// modelRun is Run, on devices that never fail but for blocks that there are not.
func modelRun(l List, devs []modelDev) (int, api.Result) {
	for i, s := range l.Segs {
		code := modelSeg(l, s, devs)
		if code != 0 {
			return i, api.Result{Status: 2, Sense: api.Sense{Key: 0xa, Code: code, Info: uint64(i), HasInfo: true}}
		}
	}
	return len(l.Segs), api.Result{}
}

func modelSeg(l List, s Seg, devs []modelDev) uint16 {
	find := func(at int) int {
		if at < 0 || at >= len(l.Units) {
			return -1
		}
		return slices.IndexFunc(devs, func(d modelDev) bool { return d.serial == l.Units[at] })
	}
	from, to := find(s.From), find(s.To)
	if from < 0 || to < 0 || devs[from].shut%2 == 1 || devs[to].shut/2%2 == 1 {
		return 0x0d02
	}
	n := uint64(max(0, s.Blocks))
	a, b := devs[from].blocks, devs[to].blocks
	if s.Src > uint64(len(a)) || n > uint64(len(a))-s.Src || s.Dst > uint64(len(b)) || n > uint64(len(b))-s.Dst {
		return 0x2100
	}
	copy(b[s.Dst:], bytes.Clone(a[s.Src:s.Src+n]))
	return 0
}

// device tells a device, of a world of its own, whose blocks are filled with these bytes.
func device(t *testing.T, kind byte, blocks ...byte) (*sbc.Dev, *world.World) {
	t.Helper()
	w := world.New()
	s, e := store.Open(w, "d", len(blocks), true)
	if e != api.OK {
		t.Fatalf("Open = %d", e)
	}
	d := &sbc.Dev{Store: s, Prot: kind}
	if kind > 3 {
		return d, w
	}
	var p []byte
	for _, b := range blocks {
		p = append(p, bytes.Repeat([]byte{b}, 16)...)
	}
	if r := d.Do(api.Cmd{Kind: api.Write, Blocks: uint64(len(blocks)), FUA: true}, p); r.Status != api.Good {
		t.Fatalf("Write = %+v", r)
	}
	w.Plan(nil, -1)
	return d, w
}

// wantDevice holds a device's blocks against the bytes that they are filled with; their tuples must be right, too.
func wantDevice(t *testing.T, d *sbc.Dev, wanted ...byte) {
	t.Helper()
	r := d.Do(api.Cmd{Kind: api.Read, Blocks: uint64(len(wanted))}, nil)
	var p []byte
	for _, b := range wanted {
		p = append(p, bytes.Repeat([]byte{b}, 16)...)
	}
	if r.Status != api.Good || !bytes.Equal(r.Data, p) {
		t.Fatalf("the blocks are %+v; want %x", r, wanted)
	}
}

func TestAnyCopiesAsTheModel(t *testing.T) {
	ends := map[uint16]int{}
	for seed := range int64(3000) {
		r := rand.New(rand.NewSource(seed))
		var devs []Named
		var models []modelDev
		for i := range r.Intn(4) + 1 {
			blocks := make([]byte, 1+r.Intn(8))
			r.Read(blocks)
			serial := "abcd"[i : i+1]
			if r.Intn(8) == 0 {
				serial = "a"
			}
			shut := byte(0)
			if r.Intn(5) == 0 {
				shut = byte(r.Intn(256))
			}
			d, _ := device(t, byte(r.Intn(4)), blocks...)
			devs = append(devs, Named{serial, d, shut})
			models = append(models, modelDev{serial, blocks, shut})
		}
		l := List{Units: []string{"a", "b", "c", "d", "e"}[:r.Intn(6)]}
		for range r.Intn(12) {
			s := Seg{r.Intn(4), r.Intn(4), r.Intn(3), uint64(r.Intn(4)), uint64(r.Intn(4))}
			if r.Intn(12) == 0 {
				s = Seg{r.Intn(8) - 2, r.Intn(8) - 2, r.Intn(12) - 4, r.Uint64() >> r.Intn(64), uint64(r.Intn(9))}
			}
			l.Segs = append(l.Segs, s)
		}
		n, got := Run(l, devs)
		m, wanted := modelRun(l, models)
		if n != m || !alikeResults(got, wanted) {
			t.Fatalf("seed %d: Run(%+v) = %d, %+v; want %d, %+v", seed, l, n, got, m, wanted)
		}
		for i, d := range devs {
			wantDevice(t, d.Dev, models[i].blocks...)
		}
		ends[got.Sense.Code]++
	}
	for _, code := range []uint16{0, 0x0d02, 0x2100} {
		if ends[code] < 100 {
			t.Errorf("only %d copies ended with %04x", ends[code], code)
		}
	}
}

func alikeResults(a, b api.Result) bool {
	return a.Status == b.Status && a.Sense == b.Sense && len(a.Data) == 0 && len(b.Data) == 0
}
