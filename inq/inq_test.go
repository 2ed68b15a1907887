package inq

import (
	"bytes"
	"encoding/hex"
	"math"
	"math/rand"
	"slices"
	"strings"
	"testing"

	"pallet/api"
)

// mustHex tells the bytes of a text in base 16; blanks are for the eye.
func mustHex(text string) []byte {
	p, err := hex.DecodeString(strings.ReplaceAll(text, " ", ""))
	if err != nil {
		panic(err)
	}
	return p
}

// whole is in form, and each of its texts is as long as it may be.
func whole() Info {
	return Info{Vendor: "VENDOR-8", Product: "PRODUCT OF 16 CH", Rev: "1.23", Serial: "SERIAL-NUMBER-OF-20!", Prot: 3}
}

// least is in form, and has no more than it must.
func least() Info { return Info{Serial: "S"} }

// texts tells pointers to the four texts of an Info, and how many characters they may have.
func texts(i *Info) ([]*string, []int) {
	return []*string{&i.Vendor, &i.Product, &i.Rev, &i.Serial}, []int{8, 16, 4, 20}
}

// pages are those that there are.
func pages() []byte { return []byte{0x00, 0x80, 0x83, 0xb0, 0xb2} }

func wantForm(t *testing.T, i Info, wanted bool) {
	t.Helper()
	if got := Form(i); got != wanted {
		t.Errorf("Form(%+q) = %v; want %v", i, got, wanted)
	}
}

// wantNothing holds that nothing is told of an Info.
func wantNothing(t *testing.T, i Info) {
	t.Helper()
	wantForm(t, i, false)
	if p := Standard(i); len(p) != 0 {
		t.Errorf("Standard(%+q) = %x; want nothing", i, p)
	}
	for page := range 256 {
		wantNoPage(t, i, byte(page))
	}
}

func wantNoPage(t *testing.T, i Info, page byte) {
	t.Helper()
	if p, ok := Page(i, page); len(p) != 0 || ok {
		t.Errorf("Page(%+q, %02x) = %x, %v; want nothing, false", i, page, p, ok)
	}
}

func wantStandard(t *testing.T, i Info, wanted string) {
	t.Helper()
	if p := Standard(i); string(p) != wanted {
		t.Errorf("Standard(%+q) = %q; want %q", i, p, wanted)
	}
}

func wantPage(t *testing.T, i Info, page byte, wanted []byte) {
	t.Helper()
	if p, ok := Page(i, page); !bytes.Equal(p, wanted) || !ok {
		t.Errorf("Page(%+q, %02x) = %x, %v; want %x, true", i, page, p, ok, wanted)
	}
}

func wantLuns(t *testing.T, list []int, wanted string) {
	t.Helper()
	if p := Luns(list); !bytes.Equal(p, mustHex(wanted)) {
		t.Errorf("Luns(%v) = %x; want %s", list, p, wanted)
	}
}

func wantCut(t *testing.T, p string, alloc int, wanted string) {
	t.Helper()
	if got := Cut([]byte(p), alloc); string(got) != wanted {
		t.Errorf("Cut(%q, %d) = %q; want %q", p, alloc, got, wanted)
	}
}

// The chapter's examples.

func TestExamples(t *testing.T) {
	wantPage(t, Info{Serial: "S0"}, 0x80, mustHex("00 80 00 02 53 30"))
	wantLuns(t, []int{0, 3}, "0000001000000000 0000000000000000 0003000000000000")
}

// P11.1: in form or not.

func TestFormOfTheLeastAndTheMost(t *testing.T) {
	wantForm(t, least(), true)
	wantForm(t, whole(), true)
	wantForm(t, Info{Vendor: "V", Product: "P", Rev: "R", Serial: "S", Prot: 1}, true)
}

func TestFormOfTextsOfEveryLength(t *testing.T) {
	for which := range 4 {
		for n := range 40 {
			i := whole()
			list, most := texts(&i)
			*list[which] = strings.Repeat("x", n)
			wanted := n <= most[which]
			if which == 3 && n == 0 {
				wanted = false
			}
			wantForm(t, i, wanted)
			if !wanted {
				wantNothing(t, i)
			}
		}
	}
}

func TestFormOfEveryCharacterAtEveryPlace(t *testing.T) {
	for which := range 4 {
		_, most := texts(&Info{})
		for at := range most[which] {
			for c := range 256 {
				i := whole()
				list, _ := texts(&i)
				p := []byte(*list[which])
				p[at] = byte(c)
				*list[which] = string(p)
				wantForm(t, i, c >= 0x20 && c <= 0x7e)
			}
		}
	}
}

func TestFormOfCharactersThatMayNotBeThere(t *testing.T) {
	for which := range 4 {
		for _, text := range []string{"\x00", "\x1f", "\x7f", "\x80", "\xff", "\n", "a\x00", "\x1fa", "\u00e9", "e\u0301", "a\u00a0", "\U0001f600"} {
			i := least()
			list, _ := texts(&i)
			*list[which] = text
			wantNothing(t, i)
		}
	}
}

func TestFormOfBlanksAlone(t *testing.T) {
	wantForm(t, Info{Vendor: "        ", Product: " ", Rev: "    ", Serial: " "}, true)
}

func TestFormOfEveryProt(t *testing.T) {
	for prot := range 256 {
		i := whole()
		i.Prot = byte(prot)
		wantForm(t, i, prot <= 3)
		if prot > 3 {
			wantNothing(t, i)
		}
	}
}

func TestFormOfMuchThatIsWrong(t *testing.T) {
	wantNothing(t, Info{})
	wantNothing(t, Info{Vendor: "V", Product: "P", Rev: "R"})
	wantNothing(t, Info{Serial: strings.Repeat("x", 1<<16)})
	wantNothing(t, Info{Vendor: "\xff\xff\xff\xff\xff\xff\xff\xff\xff", Serial: "", Prot: 255})
}

// P11.1: the standard data.

func TestStandard(t *testing.T) {
	wantStandard(t, whole(), "\x00\x00\x06\x02\x1f\x01\x00\x02VENDOR-8PRODUCT OF 16 CH1.23")
	wantStandard(t, least(), "\x00\x00\x06\x02\x1f\x00\x00\x02"+strings.Repeat(" ", 28))
	wantStandard(t, Info{Vendor: "V", Product: "PR", Rev: "REV", Serial: "S"},
		"\x00\x00\x06\x02\x1f\x00\x00\x02V       PR              REV ")
	wantStandard(t, Info{Vendor: " V", Serial: "S"}, "\x00\x00\x06\x02\x1f\x00\x00\x02 V      "+strings.Repeat(" ", 20))
}

func TestStandardOfEveryProt(t *testing.T) {
	for prot := range byte(4) {
		i := least()
		i.Prot = prot
		wanted := "\x00\x00\x06\x02\x1f\x00\x00\x02"
		if prot > 0 {
			wanted = "\x00\x00\x06\x02\x1f\x01\x00\x02"
		}
		wantStandard(t, i, wanted+strings.Repeat(" ", 28))
	}
}

func TestStandardOfTextsOfEveryLength(t *testing.T) {
	for which, from := range []int{8, 16, 32} {
		_, most := texts(&Info{})
		for n := range most[which] + 1 {
			i := least()
			list, _ := texts(&i)
			*list[which] = strings.Repeat("x", n)
			wanted := []byte("\x00\x00\x06\x02\x1f\x00\x00\x02" + strings.Repeat(" ", 28))
			copy(wanted[from:], strings.Repeat("x", n))
			wantStandard(t, i, string(wanted))
		}
	}
}

func TestStandardHasNoSerial(t *testing.T) {
	i := whole()
	i.Serial = "another"
	wantStandard(t, i, string(Standard(whole())))
}

// P11.2.

func TestPageOfPages(t *testing.T) {
	for _, i := range []Info{least(), whole()} {
		wantPage(t, i, 0x00, mustHex("00 00 00 05 00 80 83 b0 b2"))
	}
}

func TestPageOfSerial(t *testing.T) {
	wantPage(t, least(), 0x80, []byte("\x00\x80\x00\x01S"))
	wantPage(t, whole(), 0x80, []byte("\x00\x80\x00\x14SERIAL-NUMBER-OF-20!"))
	wantPage(t, Info{Serial: "a "}, 0x80, []byte("\x00\x80\x00\x02a "))
}

func TestPageOfNames(t *testing.T) {
	wantPage(t, least(), 0x83, []byte("\x00\x83\x00\x0d\x02\x01\x00\x09        S"))
	wantPage(t, whole(), 0x83, []byte("\x00\x83\x00\x20\x02\x01\x00\x1cVENDOR-8SERIAL-NUMBER-OF-20!"))
	wantPage(t, Info{Vendor: "V", Serial: "S0"}, 0x83, []byte("\x00\x83\x00\x0e\x02\x01\x00\x0aV       S0"))
}

func TestPageOfLimits(t *testing.T) {
	wanted := "00 b0 00 3c  00 ff 00 00  00 00 01 00  00 00 00 00  00 00 00 00  00 00 01 00  00 00 00 08" + strings.Repeat("00", 36)
	for _, i := range []Info{least(), whole()} {
		wantPage(t, i, 0xb0, mustHex(wanted))
	}
	if api.MaxBurst != 0x100 || api.MaxSegs != 8 {
		t.Error("the limits are not those that this page tells")
	}
}

func TestPageOfProvisioning(t *testing.T) {
	for _, i := range []Info{least(), whole()} {
		wantPage(t, i, 0xb2, mustHex("00 b2 00 04 00 e0 02 00"))
	}
}

func TestPagesThatThereAreNot(t *testing.T) {
	count := 0
	for page := range 256 {
		if slices.Contains(pages(), byte(page)) {
			continue
		}
		wantNoPage(t, least(), byte(page))
		wantNoPage(t, whole(), byte(page))
		count++
	}
	if count != 251 {
		t.Errorf("%d pages are none; want 251", count)
	}
}

func TestPagesOfSerialsOfEveryLength(t *testing.T) {
	for n := 1; n <= 20; n++ {
		i := Info{Vendor: "V", Serial: strings.Repeat("x", n)}
		wantPage(t, i, 0x80, append([]byte{0, 0x80, 0, byte(n)}, i.Serial...))
		wantPage(t, i, 0x83, append([]byte{0, 0x83, 0, byte(12 + n), 2, 1, 0, byte(8 + n)}, "V       "+i.Serial...))
	}
}

func TestEachPageTellsHowManyBytesFollow(t *testing.T) {
	for _, i := range []Info{least(), whole()} {
		for _, page := range pages() {
			if p, _ := Page(i, page); len(p) < 4 || int(p[3]) != len(p)-4 {
				t.Errorf("Page(%+q, %02x) = %x: another count follows", i, page, p)
			}
		}
	}
}

// P11.3: lists of units.

func TestLunsOfNothing(t *testing.T) {
	wantLuns(t, nil, "0000000000000000")
	wantLuns(t, []int{}, "0000000000000000")
}

func TestLuns(t *testing.T) {
	wantLuns(t, []int{0}, "0000000800000000 0000000000000000")
	wantLuns(t, []int{7}, "0000000800000000 0007000000000000")
	wantLuns(t, []int{2, 1, 2}, "0000001800000000 0002000000000000 0001000000000000 0002000000000000")
}

func TestLunsHaveTheLowestByteAlone(t *testing.T) {
	wantLuns(t, []int{255, 256, 257, 0x12345678}, "0000002000000000 00ff000000000000 0000000000000000 0001000000000000 0078000000000000")
	wantLuns(t, []int{-1, -256, math.MinInt, math.MaxInt}, "0000002000000000 00ff000000000000 0000000000000000 0000000000000000 00ff000000000000")
}

func TestLunsOfLongLists(t *testing.T) {
	for _, n := range []int{31, 32, 8191, 8192, 1 << 21} {
		list := make([]int, n)
		list[n-1] = 0x5a
		p := Luns(list)
		if len(p) != 8+8*n {
			t.Fatalf("Luns of %d numbers has %d bytes", n, len(p))
		}
		size := 8 * n
		wanted := make([]byte, 8+8*n)
		wanted[0], wanted[1], wanted[2], wanted[3] = byte(size>>24), byte(size>>16), byte(size>>8), byte(size)
		wanted[8*n+1] = 0x5a
		if !bytes.Equal(p, wanted) {
			t.Errorf("Luns of %d numbers begins with %x, ends with %x", n, p[:8], p[8*n:])
		}
	}
}

// P11.3: cuts.

func TestCut(t *testing.T) {
	wantCut(t, "abc", 0, "")
	wantCut(t, "abc", 1, "a")
	wantCut(t, "abc", 2, "ab")
	wantCut(t, "abc", 3, "abc")
	wantCut(t, "abc", 4, "abc")
	wantCut(t, "abc", math.MaxInt, "abc")
}

func TestCutBelowNothing(t *testing.T) {
	for _, alloc := range []int{-1, -2, -256, math.MinInt} {
		wantCut(t, "abc", alloc, "")
		wantCut(t, "", alloc, "")
	}
}

func TestCutOfNothing(t *testing.T) {
	for _, alloc := range []int{-1, 0, 1, 255, math.MinInt, math.MaxInt} {
		wantCut(t, "", alloc, "")
		if p := Cut(nil, alloc); len(p) != 0 {
			t.Errorf("Cut(nil, %d) = %x", alloc, p)
		}
	}
}

func TestCutOfEveryLength(t *testing.T) {
	whole := Standard(whole())
	for alloc := -3; alloc < 50; alloc++ {
		wantCut(t, string(whole), alloc, string(whole[:min(max(alloc, 0), len(whole))]))
	}
}

func TestCutLooksAtNoSpareRoom(t *testing.T) {
	room := []byte("abcdef")
	if p := Cut(room[:2], 5); string(p) != "ab" {
		t.Errorf("Cut of ab with cdef behind it, 5 = %q", p)
	}
}

// Memory.

// spoil writes over a list and its spare room.
func spoil(p []byte) {
	p = p[:cap(p)]
	for i := range p {
		p[i] ^= 0xa5
	}
}

// wantNew holds that two answers share no memory with one another, nor with what else tell hands out.
func wantNew(t *testing.T, name string, tell func() []byte) {
	t.Helper()
	first := tell()
	wanted := string(first)
	second := tell()
	spoil(first)
	if string(second) != wanted {
		t.Errorf("%s: two answers share memory", name)
	}
	spoil(second)
	if third := tell(); string(third) != wanted {
		t.Errorf("%s = %q behind answers that were written over; want %q", name, third, wanted)
	}
}

func TestAnswersAreNew(t *testing.T) {
	wantNew(t, "Standard", func() []byte { return Standard(whole()) })
	for _, page := range pages() {
		wantNew(t, "Page", func() []byte { p, _ := Page(whole(), page); return p })
	}
	list := []int{1, 2, 3}
	wantNew(t, "Luns", func() []byte { return Luns(list) })
	wantNew(t, "Luns of nothing", func() []byte { return Luns(nil) })
	p := []byte("abcdef")
	for _, alloc := range []int{-1, 0, 3, 6, 7} {
		wantNew(t, "Cut", func() []byte { return Cut(p, alloc) })
		wantNew(t, "Cut of a part", func() []byte { return Cut(p[:4], alloc) })
	}
	if string(p) != "abcdef" || !slices.Equal(list, []int{1, 2, 3}) {
		t.Errorf("what was handed in is %q, %v", p, list)
	}
}

func TestAnswersDontHangOnArguments(t *testing.T) {
	p := []byte("abcdef")
	cut := Cut(p, 4)
	spoil(p)
	if string(cut) != "abcd" {
		t.Errorf("Cut = %q behind its argument was written over", cut)
	}
	list := []int{1, 2}
	luns := Luns(list)
	list[0], list[1] = 8, 9
	if luns[9] != 1 || luns[17] != 2 {
		t.Errorf("Luns = %x behind its argument was written over", luns)
	}
}

// P1 and P2.

// anyText tells a text that is near to the form or far from it.
func anyText(r *rand.Rand) string {
	p := make([]byte, r.Intn(23))
	for i := range p {
		p[i] = byte(0x20 + r.Intn(0x5f))
		if r.Intn(60) == 0 {
			p[i] = byte(r.Intn(256))
		}
	}
	return string(p)
}

// inForm says the chapter's words once more, in another way.
func inForm(i Info) bool {
	list, most := texts(&i)
	for which, text := range list {
		if len(*text) > most[which] || strings.Trim(*text, " !\"#$%&'()*+,-./0123456789:;<=>?@ABCDEFGHIJKLMNOPQRSTUVWXYZ[\\]^_`abcdefghijklmnopqrstuvwxyz{|}~") != "" {
			return false
		}
	}
	return len(i.Serial) != 0 && i.Prot < 4
}

func TestAnyInfo(t *testing.T) {
	r := rand.New(rand.NewSource(11))
	formed := 0
	for range 20000 {
		i := Info{Vendor: anyText(r), Product: anyText(r), Rev: anyText(r), Serial: anyText(r), Prot: byte(r.Intn(5))}
		if r.Intn(3) > 0 {
			i.Vendor, i.Rev = i.Vendor[:min(8, len(i.Vendor))], i.Rev[:min(4, len(i.Rev))]
		}
		page := byte(r.Intn(256))
		if r.Intn(2) == 0 {
			page = pages()[r.Intn(5)]
		}
		wantForm(t, i, inForm(i))
		p, ok := Page(i, page)
		standard := Standard(i)
		if again, also := Page(i, page); !bytes.Equal(p, again) || ok != also || !bytes.Equal(standard, Standard(i)) {
			t.Fatalf("of %+q, %02x another answer comes the second time", i, page)
		}
		if !inForm(i) {
			if ok || len(p) != 0 || len(standard) != 0 {
				t.Fatalf("%+q isn't in form, but Page = %x, Standard = %x", i, p, standard)
			}
			continue
		}
		formed++
		if ok != slices.Contains(pages(), page) || len(standard) != 36 {
			t.Fatalf("of %+q, %02x Page = %x, %v, Standard = %x", i, page, p, ok, standard)
		}
	}
	if formed < 1000 {
		t.Errorf("only %d were in form", formed)
	}
}
