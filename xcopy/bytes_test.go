package xcopy

import (
	"bytes"
	"math"
	"math/rand"
	"slices"
	"strings"
	"testing"

	"pallet/api"
)

// example is the chapter's list.
func example() List {
	return List{Units: []string{"S0", "S1"}, Segs: []Seg{{0, 1, 2, 4, 8}}}
}

func exampleBytes() []byte {
	return mustHex("0000 0040 00000000 0000001c 00000000" +
		"e4000000 02010014 5330" + strings.Repeat("20", 18) + "00 000010" +
		"e4000000 02010014 5331" + strings.Repeat("20", 18) + "00 000010" +
		"02000018 0000 0001 0000 0002 0000000000000004 0000000000000008")
}

// with tells a copy of p with another byte at a place.
func with(p []byte, at int, b byte) []byte {
	p = bytes.Clone(p)
	p[at] = b
	return p
}

func wantList(t *testing.T, p []byte, wanted List) {
	t.Helper()
	if l, why, ok := Parse(p); !alikeLists(l, wanted) || why != (api.Sense{}) || !ok {
		t.Fatalf("Parse(%x) = %+v, %+v, %v; want %+v", p, l, why, ok, wanted)
	}
}

func wantSense(t *testing.T, p []byte, wanted api.Sense) {
	t.Helper()
	if l, why, ok := Parse(p); !alikeLists(l, List{}) || why != wanted || ok {
		t.Fatalf("Parse(%x) = %+v, %+v, %v; want %+v", p, l, why, ok, wanted)
	}
}

func wantBytes(t *testing.T, l List, wanted []byte) {
	t.Helper()
	if p, e := Bytes(l); e != api.OK || !bytes.Equal(p, wanted) {
		t.Fatalf("Bytes(%+v) = %x, %d; want %x", l, p, e, wanted)
	}
}

func wantErrno(t *testing.T, l List, wanted api.Errno) {
	t.Helper()
	if p, e := Bytes(l); e != wanted || len(p) != 0 {
		t.Fatalf("Bytes(%+v) = %x, %d; want %d", l, p, e, wanted)
	}
}

// The chapter's example.

func TestExample(t *testing.T) {
	p := exampleBytes()
	if len(p) != 16+64+28 {
		t.Fatalf("%d bytes", len(p))
	}
	wantBytes(t, example(), p)
	wantList(t, p, example())
	wantSense(t, with(p, 2, 1), shortSense())
	wantSense(t, with(p, 3, 0x41), faultAt(2))
}

// P15.1

func TestParseOfNothing(t *testing.T) {
	wantList(t, nil, List{})
	wantList(t, []byte{}, List{})
	wantList(t, exampleBytes()[:0], List{})
	wantList(t, make([]byte, 16), List{})
}

func TestParseByHand(t *testing.T) {
	p := mustHex("0000 0020 00000000 00000038 00000000" +
		"e4000000 02010014" + strings.Repeat("20", 20) + "00 000010" +
		"02000018 0000 0000 0000 0100 0123456789abcdef fedcba9876543210" +
		"02000018 0000 0000 0000 0000 ffffffffffffffff 0000000000000000")
	wantList(t, p, List{
		Units: []string{""},
		Segs:  []Seg{{0, 0, 256, 0x0123456789abcdef, 0xfedcba9876543210}, {0, 0, 0, math.MaxUint64, 0}},
	})
	// Units alone; a serial of 20 bytes, blanks in its midst, any bytes.
	p = append(mustHex("0000 0060 00000000 00000000 00000000"), slices.Concat(
		mustHex("e400000002010014"), []byte("0123456789abcdefghij"), mustHex("00000010"),
		mustHex("e400000002010014"), []byte("  a b\x00c\xff\t       \x00   "), mustHex("00000010"),
		mustHex("e400000002010014"), []byte("a\n                  "), mustHex("00000010"))...)
	wantList(t, p, List{Units: []string{"0123456789abcdefghij", "  a b\x00c\xff\t       \x00", "a\n"}})
}

func TestFaultsByHand(t *testing.T) {
	p := exampleBytes()
	for _, x := range []struct {
		at     int
		b      byte
		wanted api.Sense
	}{
		{0, 1, faultAt(0)}, {1, 1, faultAt(0)}, {0, 0x80, faultAt(0)},
		{4, 1, faultAt(4)}, {5, 1, faultAt(4)}, {6, 1, faultAt(4)}, {7, 0x80, faultAt(4)},
		{12, 1, faultAt(12)}, {13, 1, faultAt(12)}, {14, 1, faultAt(12)}, {15, 1, faultAt(12)},
		{3, 0x20, shortSense()}, {3, 0x60, shortSense()}, {3, 0x3f, faultAt(2)}, {2, 0xff, shortSense()},
		{11, 0x38, shortSense()}, {11, 0, shortSense()}, {11, 0x1b, faultAt(8)}, {10, 7, shortSense()}, {8, 1, faultAt(8)}, {8, 0xfc, shortSense()},
		{16, 0xe3, faultAt(16)}, {17, 1, faultAt(17)}, {18, 1, faultAt(18)}, {19, 1, faultAt(19)},
		{20, 1, faultAt(20)}, {21, 2, faultAt(21)}, {22, 1, faultAt(22)}, {23, 0x20, faultAt(23)},
		{44, 1, faultAt(44)}, {45, 1, faultAt(45)}, {46, 1, faultAt(45)}, {47, 15, faultAt(45)},
		{48, 0, faultAt(48)}, {55, 0, faultAt(55)}, {76, 0xff, faultAt(76)}, {77, 1, faultAt(77)}, {79, 17, faultAt(77)},
		{80, 3, faultAt(80)}, {81, 1, faultAt(80)}, {82, 1, faultAt(80)}, {83, 0x19, faultAt(80)},
		{84, 1, faultAt(84)}, {85, 2, faultAt(84)}, {86, 1, faultAt(86)}, {87, 2, faultAt(86)},
		{88, 1, faultAt(88)}, {89, 1, faultAt(88)}, {90, 1, faultAt(90)}, {90, 0xff, faultAt(90)},
	} {
		wantSense(t, with(p, x.at, x.b), x.wanted)
	}
	wantSense(t, with(with(p, 90, 1), 91, 1), faultAt(90))
	whole := example()
	whole.Segs[0].Blocks = 256
	wantList(t, with(with(p, 90, 1), 91, 0), whole)
}

// Of several faults the first is told, in the chapter's order: of each pair of them.
func TestOrderOfFaults(t *testing.T) {
	p, _ := Bytes(List{Units: []string{"S0", "S1", "S2"}, Segs: []Seg{{0, 1, 2, 4, 8}, {1, 0, 2, 4, 8}}})
	type change struct {
		at     int
		b      byte
		wanted api.Sense
	}
	// In the order in which they are told.
	changes := []change{
		{1, 1, faultAt(0)}, {6, 1, faultAt(4)}, {12, 1, faultAt(12)}, {3, 0x61, faultAt(2)}, {10, 1, faultAt(8)}, {2, 1, shortSense()},
	}
	for _, at := range []int{16, 48, 80} {
		for i := range 8 {
			changes = append(changes, change{at + i, 0x77, faultAt(at + i)})
		}
		changes = append(changes, change{at + 28, 1, faultAt(at + 28)}, change{at + 31, 1, faultAt(at + 29)})
	}
	for _, at := range []int{112, 140} {
		changes = append(changes, change{at + 3, 1, faultAt(at)}, change{at + 9, 1, faultAt(at + 8)},
			change{at + 5, 3, faultAt(at + 4)}, change{at + 6, 1, faultAt(at + 6)}, change{at + 10, 2, faultAt(at + 10)})
	}
	for i, first := range changes {
		wantSense(t, with(p, first.at, first.b), first.wanted)
		for _, second := range changes[i+1:] {
			wantSense(t, with(with(p, second.at, second.b), first.at, first.b), first.wanted)
		}
	}
	// Too short goes ahead of too many, and that ahead of a wrong unit.
	many := modelBytes(List{Units: make([]string, 9), Segs: make([]Seg, 9)})
	wantSense(t, many, manySense())
	wantSense(t, with(many, 16, 0), manySense())
	wantSense(t, many[:len(many)-1], shortSense())
	wantSense(t, append(many, 0), shortSense())
}

// Each byte of the parameters, made each other one.
func TestEveryByte(t *testing.T) {
	for _, l := range []List{{}, example(), {Units: []string{"01234567890123456789"}, Segs: []Seg{{}, {Blocks: 255}}}, {Units: []string{"a b", "", "c"}}} {
		p := modelBytes(l)
		for at := range p {
			for b := range 256 {
				wantAsModel(t, with(p, at, byte(b)))
			}
		}
	}
}

// Cut anywhere, and longer.
func TestEveryLength(t *testing.T) {
	for _, l := range []List{{}, example(), {Units: []string{"a", "b"}}, {Units: []string{"a"}, Segs: make([]Seg, 3)}} {
		p := append(modelBytes(l), make([]byte, 70)...)
		whole := len(p) - 70
		for n := range len(p) + 1 {
			why := wantAsModel(t, p[:n])
			if (why == api.Sense{}) != (n == 0 || n == whole) || why != (api.Sense{}) && why != shortSense() {
				t.Errorf("%d of %d bytes: %+v", n, whole, why)
			}
		}
	}
}

// What lies in the spare room isn't looked at.
func TestSpareRoomIsNotLookedAt(t *testing.T) {
	p := exampleBytes()
	for n := 1; n < len(p); n++ {
		wantSense(t, p[:n], shortSense())
	}
}

func TestCountsOfUnitsAndSegments(t *testing.T) {
	for units := range 12 {
		for segs := range 12 {
			l := List{Units: make([]string, units), Segs: make([]Seg, segs)}
			p := modelBytes(l)
			switch {
			case units > 8 || segs > 8:
				wantSense(t, p, manySense())
				wantErrno(t, l, api.ErrLong)
			case units == 0 && segs > 0:
				wantSense(t, p, faultAt(16+4))
				wantErrno(t, l, api.ErrForm)
			default:
				wantList(t, p, l)
				wantBytes(t, l, p)
			}
		}
	}
	// As many as the head can tell.
	l := List{Units: make([]string, 2047), Segs: make([]Seg, 3000)}
	wantSense(t, modelBytes(l), manySense())
}

func TestAnyParameters(t *testing.T) {
	r := rand.New(rand.NewSource(16))
	whole := 0
	for range 30000 {
		p := modelBytes(anyList(r))
		for range r.Intn(4) {
			at := r.Intn(len(p))
			if r.Intn(3) == 0 {
				at = r.Intn(16)
			}
			p[at] = byte(r.Intn(256)) >> r.Intn(8)
		}
		switch r.Intn(8) {
		case 0:
			p = p[:r.Intn(len(p)+1)]
		case 1:
			p = append(p, make([]byte, r.Intn(60))...)
		}
		ahead := bytes.Clone(p)
		if why := wantAsModel(t, p); why == (api.Sense{}) {
			whole++
		}
		wantAsModel(t, p)
		if !bytes.Equal(p, ahead) {
			t.Fatalf("%x was changed to %x", ahead, p)
		}
	}
	if whole < 3000 {
		t.Errorf("only %d were whole", whole)
	}
	for range 30000 {
		p := make([]byte, r.Intn(200))
		r.Read(p)
		wantAsModel(t, p)
	}
}

// P15.2

func TestBytesByHand(t *testing.T) {
	wantBytes(t, List{}, make([]byte, 16))
	wantBytes(t, List{Units: []string{}, Segs: []Seg{}}, make([]byte, 16))
	wantBytes(t, List{Units: []string{"0123456789abcdefghij"}, Segs: []Seg{{0, 0, 256, math.MaxUint64, 0x0102030405060708}}},
		mustHex("0000 0020 00000000 0000001c 00000000"+
			"e4000000 02010014 3031323334353637383961626364656667 68696a 00 000010"+
			"02000018 0000 0000 0000 0100 ffffffffffffffff 0102030405060708"))
}

func TestListsThatHaveNoBytes(t *testing.T) {
	two := []string{"a", "b"}
	for _, x := range []struct {
		l      List
		wanted api.Errno
	}{
		{List{Units: []string{strings.Repeat("x", 20)}}, api.OK},
		{List{Units: []string{strings.Repeat("x", 21)}}, api.ErrForm},
		{List{Units: []string{"a", strings.Repeat("x", 21)}}, api.ErrForm},
		{List{Units: []string{strings.Repeat("x", 1000)}}, api.ErrForm},
		{List{Units: []string{" "}}, api.ErrForm},
		{List{Units: []string{"a "}}, api.ErrForm},
		{List{Units: []string{"b", "a ", "c"}}, api.ErrForm},
		{List{Units: []string{strings.Repeat("x", 19) + " "}}, api.ErrForm},
		{List{Units: []string{" a"}}, api.OK},
		{List{Units: []string{"a b"}}, api.OK},
		{List{Units: []string{""}}, api.OK},
		{List{Units: []string{"a\t"}}, api.OK},
		{List{Units: []string{"a\x00"}}, api.OK},
		{List{Units: []string{"a\u00a0"}}, api.OK},
		{List{Units: two, Segs: []Seg{{1, 1, 0, 0, 0}}}, api.OK},
		{List{Units: two, Segs: []Seg{{2, 1, 0, 0, 0}}}, api.ErrForm},
		{List{Units: two, Segs: []Seg{{1, 2, 0, 0, 0}}}, api.ErrForm},
		{List{Units: two, Segs: []Seg{{-1, 1, 0, 0, 0}}}, api.ErrForm},
		{List{Units: two, Segs: []Seg{{1, -1, 0, 0, 0}}}, api.ErrForm},
		{List{Units: two, Segs: []Seg{{}, {math.MaxInt, 0, 0, 0, 0}}}, api.ErrForm},
		{List{Units: two, Segs: []Seg{{}, {0, math.MinInt, 0, 0, 0}}}, api.ErrForm},
		{List{Units: two, Segs: []Seg{{65536, 0, 0, 0, 0}}}, api.ErrForm},
		{List{Segs: []Seg{{}}}, api.ErrForm},
		{List{Units: two, Segs: []Seg{{0, 1, 256, 0, 0}}}, api.OK},
		{List{Units: two, Segs: []Seg{{0, 1, 257, 0, 0}}}, api.ErrForm},
		{List{Units: two, Segs: []Seg{{0, 1, -1, 0, 0}}}, api.ErrForm},
		{List{Units: two, Segs: []Seg{{0, 1, 65536, 0, 0}}}, api.ErrForm},
		{List{Units: two, Segs: []Seg{{0, 1, math.MinInt, 0, 0}}}, api.ErrForm},
		{List{Units: two, Segs: []Seg{{}, {0, 1, math.MaxInt, 0, 0}}}, api.ErrForm},
		{List{Units: slices.Repeat(two, 4), Segs: make([]Seg, 8)}, api.OK},
		{List{Units: make([]string, 9)}, api.ErrLong},
		{List{Units: two, Segs: make([]Seg, 9)}, api.ErrLong},
		// The least error is told.
		{List{Units: slices.Repeat([]string{"a "}, 9)}, api.ErrLong},
		{List{Units: []string{"a "}, Segs: make([]Seg, 9)}, api.ErrLong},
		{List{Segs: make([]Seg, 9)}, api.ErrLong},
	} {
		if x.wanted != api.OK {
			wantErrno(t, x.l, x.wanted)
			continue
		}
		wantBytes(t, x.l, modelBytes(x.l))
		wantList(t, modelBytes(x.l), x.l)
	}
}

func TestAnyListThereAndBack(t *testing.T) {
	r := rand.New(rand.NewSource(17))
	for range 10000 {
		l := anyList(r)
		p := modelBytes(l)
		wantBytes(t, l, p)
		wantList(t, p, l)
	}
}

// Memory.

// spoil writes over a list of bytes and its spare room.
func spoil(p []byte) {
	p = p[:cap(p)]
	for i := range p {
		p[i] ^= 0xa5
	}
}

// spoilList writes over a list and its spare room.
func spoilList(l List) {
	units, segs := l.Units[:cap(l.Units)], l.Segs[:cap(l.Segs)]
	for i := range units {
		units[i] += "!"
	}
	for i := range segs {
		segs[i].Blocks++
	}
}

func TestAnswersAreNew(t *testing.T) {
	for _, l := range []List{{}, example(), {Units: []string{"a", "b", "c"}, Segs: make([]Seg, 3)}} {
		wanted := modelBytes(l)
		first, _ := Bytes(l)
		second, _ := Bytes(l)
		spoil(first)
		if !bytes.Equal(second, wanted) {
			t.Errorf("two answers of Bytes share memory")
		}
		spoil(second)
		wantBytes(t, l, wanted)
		one, _, _ := Parse(wanted)
		two, _, _ := Parse(wanted)
		spoilList(one)
		if !alikeLists(two, l) {
			t.Errorf("two answers of Parse share memory")
		}
		spoilList(two)
		wantList(t, wanted, l)
	}
}

func TestArgumentsAreNeitherChangedNorKept(t *testing.T) {
	room := append(exampleBytes(), 1, 2, 3)
	ahead := bytes.Clone(room)
	l, _, _ := Parse(room[:len(room)-3])
	if !bytes.Equal(room, ahead) {
		t.Errorf("%x became %x", ahead, room)
	}
	spoil(room)
	if !alikeLists(l, example()) {
		t.Errorf("%+v behind its argument was written over", l)
	}
	in := List{Units: []string{"S0", "S1", "spare"}, Segs: []Seg{{0, 1, 2, 4, 8}, {9, 9, 9, 9, 9}}}
	p, _ := Bytes(List{Units: in.Units[:2], Segs: in.Segs[:1]})
	if !slices.Equal(in.Units, []string{"S0", "S1", "spare"}) || !slices.Equal(in.Segs, []Seg{{0, 1, 2, 4, 8}, {9, 9, 9, 9, 9}}) {
		t.Errorf("the list became %+v", in)
	}
	spoilList(in)
	if !bytes.Equal(p, exampleBytes()) {
		t.Errorf("%x behind its argument was written over", p)
	}
}
