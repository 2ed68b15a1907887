package mode

import (
	"bytes"
	"math/rand"
	"slices"
	"strings"
	"testing"

	"pallet/api"
)

// Parameters: a head, short or long, and pages behind it.

func short(pages ...[]byte) []byte { return append(make([]byte, 4), slices.Concat(pages...)...) }

func long(pages ...[]byte) []byte { return append(make([]byte, 8), slices.Concat(pages...)...) }

// with tells a copy of p with another byte at a place.
func with(p []byte, at int, b byte) []byte {
	p = bytes.Clone(p)
	p[at] = b
	return p
}

func wantValues(t *testing.T, m *Pages, now, saved Values) {
	t.Helper()
	if m.Now() != now || m.Saved() != saved {
		t.Errorf("Now = %+v, Saved = %+v; want %+v, %+v", m.Now(), m.Saved(), now, saved)
	}
}

func wantData(t *testing.T, m *Pages, c api.Cmd, wanted []byte) {
	t.Helper()
	if p, s, ok := m.Sense(c); !bytes.Equal(p, wanted) || s != (api.Sense{}) || !ok {
		t.Errorf("Sense(%+v) = %x, %+v, %v; want %x", c, p, s, ok, wanted)
	}
}

func wantTaken(t *testing.T, m *Pages, c api.Cmd, p []byte, changed bool) {
	t.Helper()
	if got, s, ok := m.Select(c, p); got != changed || s != (api.Sense{}) || !ok {
		t.Errorf("Select(%+v, %x) = %v, %+v, %v; want %v", c, p, got, s, ok, changed)
	}
}

// wantRefused holds that parameters are refused, and that nothing changes, whatever the values are, with Save and without.
func wantRefused(t *testing.T, isLong bool, p []byte, wanted api.Sense) {
	t.Helper()
	for _, now := range allValues() {
		saved := Values{WCE: !now.WCE, DSense: now.SWP, SWP: !now.DSense}
		for _, save := range []bool{false, true} {
			m := &Pages{now: now, saved: saved}
			if got, s, ok := m.Select(api.Cmd{Long: isLong, Save: save}, p); got || s != wanted || ok {
				t.Fatalf("Select(Long %v, %x) = %v, %+v, %v; want %+v", isLong, p, got, s, ok, wanted)
			}
			wantValues(t, m, now, saved)
		}
	}
}

// The chapter's examples.

func TestExamples(t *testing.T) {
	m := New(Default())
	wantData(t, m, api.Cmd{Page: 0x0a}, mustHex("0f001000 0a0a00000000000000000000"))
	wantData(t, m, api.Cmd{Page: 0x3f, Control: 1},
		mustHex("23001000 0812040000000000000000000000000000000000 0a0a04000800000000000000"))
	p := mustHex("00000000 0a0a00000800000000000000")
	wantTaken(t, m, api.Cmd{}, p, true)
	wantValues(t, m, Values{WCE: true, SWP: true}, Values{WCE: true})
	wantRefused(t, false, with(p, 6, 1), paramFault(6, 0))
	wantRefused(t, false, with(p, 4, 0x0b), paramFault(4, -1))
}

// P12.1.

func TestDefault(t *testing.T) {
	if v := Default(); v != (Values{WCE: true}) {
		t.Errorf("Default() = %+v", v)
	}
}

func TestNew(t *testing.T) {
	for _, v := range allValues() {
		wantValues(t, New(v), v, v)
	}
}

func TestPagesStandAlone(t *testing.T) {
	a, b := New(Default()), New(Default())
	wantTaken(t, a, api.Cmd{Save: true}, short(controlPage(Values{SWP: true})), true)
	wantValues(t, b, Default(), Default())
	if Default() != (Values{WCE: true}) {
		t.Error("the defaults have changed")
	}
}

func TestNilPagesHaveNoValue(t *testing.T) {
	var m *Pages
	wantValues(t, m, Values{}, Values{})
}

// P12.2.

func TestSenseByHand(t *testing.T) {
	m := &Pages{now: Values{DSense: true, SWP: true}, saved: Values{WCE: true, SWP: true}}
	zeros := strings.Repeat("00", 17)
	for _, c := range []struct {
		cmd    api.Cmd
		wanted string
	}{
		{api.Cmd{Page: 0x08}, "17009000 081200" + zeros},
		{api.Cmd{Page: 0x08, Control: 1}, "17009000 081204" + zeros},
		{api.Cmd{Page: 0x08, Control: 2}, "17009000 081204" + zeros},
		{api.Cmd{Page: 0x08, Control: 3}, "17009000 081204" + zeros},
		{api.Cmd{Page: 0x0a}, "0f009000 0a0a04000800000000000000"},
		{api.Cmd{Page: 0x0a, Control: 1}, "0f009000 0a0a04000800000000000000"},
		{api.Cmd{Page: 0x0a, Control: 2}, "0f009000 0a0a00000000000000000000"},
		{api.Cmd{Page: 0x0a, Control: 3}, "0f009000 0a0a00000800000000000000"},
		{api.Cmd{Page: 0x3f}, "23009000 081200" + zeros + "0a0a04000800000000000000"},
		{api.Cmd{Page: 0x08, Long: true}, "001a009000000000 081200" + zeros},
		{api.Cmd{Page: 0x0a, Long: true, Control: 2}, "0012009000000000 0a0a00000000000000000000"},
		{api.Cmd{Page: 0x3f, Long: true, Control: 3}, "0026009000000000 081204" + zeros + "0a0a00000800000000000000"},
	} {
		wantData(t, m, c.cmd, mustHex(c.wanted))
	}
}

func TestTheHeadTellsTheCurrentProtectionAlone(t *testing.T) {
	for _, now := range allValues() {
		for _, saved := range allValues() {
			m := &Pages{now: now, saved: saved}
			device := byte(0x10)
			if now.SWP {
				device = 0x90
			}
			for control := range byte(4) {
				if p, _, _ := m.Sense(api.Cmd{Page: 0x3f, Control: control}); p[2] != device {
					t.Errorf("of %+v, %+v control %d: %x", now, saved, control, p[:4])
				}
				if p, _, _ := m.Sense(api.Cmd{Page: 0x3f, Control: control, Long: true}); p[3] != device {
					t.Errorf("of %+v, %+v control %d: %x", now, saved, control, p[:8])
				}
			}
		}
	}
}

func TestSenseOfEveryPageAndControlAndValues(t *testing.T) {
	for _, now := range allValues() {
		for _, saved := range allValues() {
			m := &Pages{now: now, saved: saved}
			for _, page := range []byte{0x08, 0x0a, 0x3f} {
				for control := range 256 {
					for _, isLong := range []bool{false, true} {
						c := api.Cmd{Page: page, Control: byte(control), Long: isLong}
						wanted, _, _ := model{now, saved}.sense(c)
						wantData(t, m, c, wanted)
					}
				}
			}
		}
	}
}

func TestSenseOfPagesThatThereAreNot(t *testing.T) {
	for _, m := range []*Pages{nil, New(Default()), New(Values{true, true, true})} {
		for page := range 256 {
			if page == 0x08 || page == 0x0a || page == 0x3f {
				continue
			}
			for _, c := range []api.Cmd{
				{Page: byte(page)},
				{Page: byte(page), Control: 1, Long: true},
				{Page: byte(page), Control: 255, Alloc: 255, Save: true},
			} {
				if p, s, ok := m.Sense(c); len(p) != 0 || s != commandFault(2, 5) || ok {
					t.Errorf("Sense(%+v) = %x, %+v, %v", c, p, s, ok)
				}
			}
		}
	}
}

func TestSenseIsNotCutAndLooksAtNothingElse(t *testing.T) {
	m := New(Default())
	wanted, _, _ := m.Sense(api.Cmd{Page: 0x3f, Control: 1})
	wantData(t, m, api.Cmd{Kind: api.ModeSense, Page: 0x3f, Control: 1, Alloc: 1}, wanted)
	wantData(t, m, api.Cmd{Kind: api.Copy, Page: 0x3f, Control: 1, Alloc: -1, LBA: 9, Blocks: 9, FUA: true, Prot: 7, Unmap: true, EVPD: true, Save: true, Service: 9, Type: 9, Bytes: true}, wanted)
}

func TestSenseChangesNothing(t *testing.T) {
	m := &Pages{now: Values{SWP: true}, saved: Values{DSense: true}}
	for control := range byte(5) {
		for page := range 64 {
			m.Sense(api.Cmd{Page: byte(page), Control: control, Save: true})
		}
	}
	wantValues(t, m, Values{SWP: true}, Values{DSense: true})
}

func TestSenseOfNilPages(t *testing.T) {
	var m *Pages
	for _, page := range []byte{0x08, 0x0a, 0x3f} {
		for control := range 256 {
			for _, isLong := range []bool{false, true} {
				c := api.Cmd{Page: page, Control: byte(control), Long: isLong}
				wanted, _, _ := model{}.sense(c)
				wantData(t, m, c, wanted)
			}
		}
	}
}

// P12.3: what is taken.

func TestSelectOfNoBytes(t *testing.T) {
	m := &Pages{now: Values{SWP: true}, saved: Values{DSense: true}}
	for _, c := range []api.Cmd{{}, {Save: true}, {Long: true}, {Long: true, Save: true}} {
		wantTaken(t, m, c, nil, false)
		wantTaken(t, m, c, []byte{}, false)
		wantValues(t, m, Values{SWP: true}, Values{DSense: true})
	}
}

func TestSelectOfAHeadAlone(t *testing.T) {
	now, saved := Values{SWP: true}, Values{DSense: true}
	for _, isLong := range []bool{false, true} {
		head := short()
		if isLong {
			head = long()
		}
		m := &Pages{now: now, saved: saved}
		wantTaken(t, m, api.Cmd{Long: isLong}, head, false)
		wantValues(t, m, now, saved)
		wantTaken(t, m, api.Cmd{Long: isLong, Save: true}, head, false)
		wantValues(t, m, now, now)
	}
}

func TestSelectFromEveryValueToEveryOther(t *testing.T) {
	for _, from := range allValues() {
		for _, saved := range allValues() {
			for _, to := range allValues() {
				for _, isLong := range []bool{false, true} {
					p := short(cachingPage(to), controlPage(to))
					if isLong {
						p = long(controlPage(to), cachingPage(to))
					}
					m := &Pages{now: from, saved: saved}
					wantTaken(t, m, api.Cmd{Long: isLong}, p, from != to)
					wantValues(t, m, to, saved)
					m = &Pages{now: from, saved: saved}
					wantTaken(t, m, api.Cmd{Long: isLong, Save: true}, p, from != to)
					wantValues(t, m, to, to)
				}
			}
		}
	}
}

func TestSelectOfOnePageLeavesTheOthersValues(t *testing.T) {
	for _, from := range allValues() {
		for _, to := range allValues() {
			m := New(from)
			wanted := Values{WCE: to.WCE, DSense: from.DSense, SWP: from.SWP}
			wantTaken(t, m, api.Cmd{}, short(cachingPage(to)), from.WCE != to.WCE)
			wantValues(t, m, wanted, from)
			m = New(from)
			wanted = Values{WCE: from.WCE, DSense: to.DSense, SWP: to.SWP}
			wantTaken(t, m, api.Cmd{}, short(controlPage(to)), from.DSense != to.DSense || from.SWP != to.SWP)
			wantValues(t, m, wanted, from)
		}
	}
}

func TestSaveKeepsValuesThatNoPageBrought(t *testing.T) {
	m := New(Default())
	wantTaken(t, m, api.Cmd{}, short(controlPage(Values{DSense: true})), true)
	wantValues(t, m, Values{WCE: true, DSense: true}, Default())
	wantTaken(t, m, api.Cmd{Save: true}, short(cachingPage(Values{})), true)
	wantValues(t, m, Values{DSense: true}, Values{DSense: true})
}

func TestSelectOfWhatIsThereAlreadySavesIt(t *testing.T) {
	m := &Pages{now: Values{SWP: true}, saved: Values{WCE: true}}
	wantTaken(t, m, api.Cmd{Save: true}, short(controlPage(Values{SWP: true})), false)
	wantValues(t, m, Values{SWP: true}, Values{SWP: true})
}

func TestSelectOfAPageTwice(t *testing.T) {
	on, off := Values{true, true, true}, Values{}
	m := New(off)
	wantTaken(t, m, api.Cmd{}, short(cachingPage(on), cachingPage(off)), false)
	wantValues(t, m, off, off)
	wantTaken(t, m, api.Cmd{}, short(cachingPage(off), cachingPage(on)), true)
	wantValues(t, m, Values{WCE: true}, off)
	wantTaken(t, m, api.Cmd{}, short(controlPage(off), cachingPage(off), controlPage(on), cachingPage(on), controlPage(Values{SWP: true})), true)
	wantValues(t, m, Values{WCE: true, SWP: true}, off)
	wantTaken(t, m, api.Cmd{Save: true}, short(controlPage(on), controlPage(Values{SWP: true})), false)
	wantValues(t, m, Values{WCE: true, SWP: true}, Values{WCE: true, SWP: true})
}

func TestSelectOfManyPages(t *testing.T) {
	on := Values{true, true, true}
	m := New(Values{})
	p := short(bytes.Repeat(controlPage(on), 1<<12), bytes.Repeat(cachingPage(on), 1<<12))
	wantTaken(t, m, api.Cmd{}, p, true)
	wantValues(t, m, on, Values{})
	end := len(p)
	wantRefused(t, false, append(p, 0), paramFault(end, -1))
	wantRefused(t, false, with(p, end-1, 0x10), paramFault(end-1, 4))
}

func TestTheFreeByteOfTheHead(t *testing.T) {
	for b := range 256 {
		m := New(Values{})
		wantTaken(t, m, api.Cmd{}, with(short(controlPage(Values{SWP: true})), 2, byte(b)), true)
		wantValues(t, m, Values{SWP: true}, Values{})
		wantTaken(t, m, api.Cmd{Long: true}, with(long(controlPage(Values{DSense: true})), 3, byte(b)), true)
		wantValues(t, m, Values{DSense: true}, Values{})
	}
}

func TestWhatSenseTellsCanBeSelected(t *testing.T) {
	for _, v := range allValues() {
		for _, isLong := range []bool{false, true} {
			p, _, _ := New(v).Sense(api.Cmd{Page: 0x3f, Long: isLong})
			p[0], p[1] = 0, 0
			m := New(Values{})
			wantTaken(t, m, api.Cmd{Long: isLong}, p, v != Values{})
			wantValues(t, m, v, Values{})
		}
	}
}

func TestSelectLooksAtNothingElse(t *testing.T) {
	m := New(Default())
	c := api.Cmd{Kind: api.Copy, Page: 0x77, Control: 3, Alloc: 1, LBA: 9, Blocks: 9, FUA: true, Prot: 7, Unmap: true, EVPD: true, Service: 9, Type: 9, Bytes: true}
	wantTaken(t, m, c, short(controlPage(Values{SWP: true})), true)
	wantValues(t, m, Values{WCE: true, SWP: true}, Default())
}

func TestSelectOfNilPages(t *testing.T) {
	var m *Pages
	for _, p := range [][]byte{nil, {0}, {1}, short(), long(), short(controlPage(Values{SWP: true})), mustHex("00000000 0b"), mustHex("01000000")} {
		for _, c := range []api.Cmd{{}, {Save: true}, {Long: true}} {
			wantTaken(t, m, c, p, false)
		}
	}
	wantValues(t, m, Values{}, Values{})
}

// P12.3: what is refused.

func TestAHeadThatIsCut(t *testing.T) {
	for n := 1; n < 8; n++ {
		for _, b := range []byte{0, 1, 0xff} {
			p := bytes.Repeat([]byte{b}, n)
			wantRefused(t, true, p, lengthFault())
			if n < 4 {
				wantRefused(t, false, p, lengthFault())
			}
		}
	}
}

func TestABitOfTheHead(t *testing.T) {
	for at := range 8 {
		for bit := range 8 {
			if at < 4 && at != 2 {
				wantRefused(t, false, with(short(cachingPage(Values{})), at, 1<<bit), paramFault(at, -1))
				wantRefused(t, false, with(short(), at, 1<<bit), paramFault(at, -1))
			}
			if at != 3 {
				wantRefused(t, true, with(long(cachingPage(Values{})), at, 1<<bit), paramFault(at, -1))
				wantRefused(t, true, with(long(), at, 1<<bit), paramFault(at, -1))
			}
		}
	}
}

func TestThePageThatThereIsNot(t *testing.T) {
	for code := range 256 {
		if code == 0x08 || code == 0x0a {
			continue
		}
		b := byte(code)
		wantRefused(t, false, short([]byte{b}), paramFault(4, -1))
		wantRefused(t, true, long([]byte{b}), paramFault(8, -1))
		wantRefused(t, false, short(with(controlPage(Values{SWP: true}), 0, b)), paramFault(4, -1))
		wantRefused(t, false, short(cachingPage(Values{}), controlPage(Values{}), []byte{b, 0xff}), paramFault(36, -1))
	}
}

func TestASecondByteThatIsNotRight(t *testing.T) {
	for size := range 256 {
		b := byte(size)
		for _, rest := range [][]byte{nil, {0}, make([]byte, 10), make([]byte, 18), make([]byte, 300)} {
			if b != 0x12 {
				wantRefused(t, false, short([]byte{0x08, b}, rest), paramFault(5, -1))
			}
			if b != 0x0a {
				wantRefused(t, true, long([]byte{0x0a, b}, rest), paramFault(9, -1))
			}
		}
	}
}

func TestPagesThatAreCut(t *testing.T) {
	on := Values{true, true, true}
	both := slices.Concat(cachingPage(on), controlPage(on))
	for n := range len(both) {
		if n == 0 || n == 20 {
			continue
		}
		wantRefused(t, false, short(both[:n]), lengthFault())
		wantRefused(t, true, long(both[:n]), lengthFault())
	}
}

func TestACutGoesAheadOfABitAndABitAheadOfTheNextPage(t *testing.T) {
	wrong := with(cachingPage(Values{}), 2, 0xff)
	wantRefused(t, false, short(wrong[:19]), lengthFault())
	wantRefused(t, false, short(wrong), paramFault(6, 7))
	wantRefused(t, false, short(wrong, []byte{0x0b}), paramFault(6, 7))
	wantRefused(t, false, short(wrong, []byte{0x0a}), paramFault(6, 7))
	wantRefused(t, false, with(short([]byte{0x0b}), 3, 1), paramFault(3, -1))
	wantRefused(t, false, short([]byte{0x09, 0xff}), paramFault(4, -1))
}

func TestEveryBitOfThePages(t *testing.T) {
	for at := 2; at < 20; at++ {
		for b := 1; b < 256; b++ {
			caching := with(cachingPage(Values{}), at, byte(b))
			wantAsModel(t, false, short(caching))
			wantAsModel(t, true, long(controlPage(Values{}), caching))
			if at < 12 {
				control := with(controlPage(Values{}), at, byte(b))
				wantAsModel(t, false, short(control))
				wantAsModel(t, true, long(cachingPage(Values{}), control))
			}
		}
	}
}

func TestBitsByHand(t *testing.T) {
	caching, control := cachingPage(Values{WCE: true}), controlPage(Values{DSense: true, SWP: true})
	wantRefused(t, false, short(with(caching, 2, 0x0c)), paramFault(6, 3))
	wantRefused(t, false, short(with(caching, 2, 0x05)), paramFault(6, 0))
	wantRefused(t, false, short(with(caching, 4, 0x08)), paramFault(8, 3))
	wantRefused(t, false, short(with(caching, 19, 0x81)), paramFault(23, 7))
	wantRefused(t, false, short(with(control, 3, 0x04)), paramFault(7, 2))
	wantRefused(t, false, short(with(control, 4, 0x0c)), paramFault(8, 2))
	wantRefused(t, false, short(with(control, 4, 0x18)), paramFault(8, 4))
	wantRefused(t, false, short(with(with(control, 2, 0x06), 4, 0x80)), paramFault(6, 1))
	wantRefused(t, true, long(caching, with(control, 11, 0x40)), paramFault(39, 6))
}

func TestWhatIsRightAheadOfAFaultIsNotTaken(t *testing.T) {
	on := Values{true, true, true}
	right := slices.Concat(cachingPage(on), controlPage(on))
	wantRefused(t, false, short(right, []byte{0}), paramFault(36, -1))
	wantRefused(t, false, short(right, []byte{8}), lengthFault())
	wantRefused(t, false, short(right, right[:31]), lengthFault())
}

// wantAsModel holds a Select of all values against the model.
func wantAsModel(t *testing.T, isLong bool, p []byte) {
	t.Helper()
	for _, v := range allValues() {
		m, o := New(v), model{v, v}
		wantSame(t, m, &o, api.Cmd{Long: isLong, Save: v.WCE}, p)
	}
}

// wantSame tells both the same parameters.
func wantSame(t *testing.T, m *Pages, o *model, c api.Cmd, p []byte) {
	t.Helper()
	changed, why, taken := o.sel(c, p)
	if got, s, ok := m.Select(c, p); got != changed || s != why || ok != taken {
		t.Fatalf("Select(%+v, %x) = %v, %+v, %v; want %v, %+v, %v", c, p, got, s, ok, changed, why, taken)
	}
	if m.Now() != o.now || m.Saved() != o.saved {
		t.Fatalf("behind Select(%+v, %x): %+v, %+v; want %+v, %+v", c, p, m.Now(), m.Saved(), o.now, o.saved)
	}
}

func TestAnyParametersAsInTheModel(t *testing.T) {
	r := rand.New(rand.NewSource(12))
	m, o := New(Default()), model{Default(), Default()}
	taken := 0
	for range 100000 {
		isLong := r.Intn(2) == 0
		p := anyParams(r, isLong != (r.Intn(20) == 0))
		ahead := bytes.Clone(p)
		wantSame(t, m, &o, api.Cmd{Long: isLong, Save: r.Intn(3) == 0}, p)
		if !bytes.Equal(p, ahead) {
			t.Fatalf("parameters were %x, and are %x", ahead, p)
		}
		if _, _, ok := (&model{}).sel(api.Cmd{Long: isLong}, p); ok {
			taken++
		}
		c := api.Cmd{Long: isLong, Page: []byte{8, 10, 0x3f}[r.Intn(3)], Control: byte(r.Intn(5))}
		wanted, _, _ := o.sense(c)
		wantData(t, m, c, wanted)
	}
	if taken < 20000 || taken > 80000 {
		t.Errorf("%d of 100000 were taken", taken)
	}
}

func TestAnyBytes(t *testing.T) {
	r := rand.New(rand.NewSource(13))
	for range 50000 {
		p := make([]byte, r.Intn(60))
		for i := range p {
			p[i] = []byte{0, 0, 0, 4, 8, 8, 10, 10, 0x12, 0x12, 0xff, byte(r.Intn(256))}[r.Intn(12)]
		}
		if r.Intn(2) == 0 {
			clear(p[:min(len(p), 8)])
		}
		wantAsModel(t, r.Intn(2) == 0, p)
	}
}

// Memory, P1 and P2.

// spoil writes over a list and its spare room.
func spoil(p []byte) {
	p = p[:cap(p)]
	for i := range p {
		p[i] ^= 0xa5
	}
}

func TestAnswersAreNew(t *testing.T) {
	m := New(Values{true, true, true})
	for _, page := range []byte{0x08, 0x0a, 0x3f} {
		for control := range byte(4) {
			for _, isLong := range []bool{false, true} {
				c := api.Cmd{Page: page, Control: control, Long: isLong}
				wanted, _, _ := model{m.now, m.saved}.sense(c)
				first, _, _ := m.Sense(c)
				second, _, _ := m.Sense(c)
				spoil(first)
				if !bytes.Equal(second, wanted) {
					t.Errorf("Sense(%+v): two answers share memory", c)
				}
				spoil(second)
				wantData(t, m, c, wanted)
			}
		}
	}
}

func TestParametersAreNotKept(t *testing.T) {
	m := New(Values{})
	p := append(short(cachingPage(Values{WCE: true}), controlPage(Values{SWP: true})), 1, 2, 3)[:36]
	ahead := bytes.Clone(p[:39])
	wantTaken(t, m, api.Cmd{Save: true}, p, true)
	if !bytes.Equal(p[:39], ahead) {
		t.Errorf("parameters were %x, and are %x", ahead, p[:39])
	}
	spoil(p)
	wantValues(t, m, Values{WCE: true, SWP: true}, Values{WCE: true, SWP: true})
}

func TestSelectLooksAtNoSpareRoom(t *testing.T) {
	room := short(controlPage(Values{SWP: true}))
	for n := 5; n < 16; n++ {
		wantRefused(t, false, room[:n], lengthFault())
	}
}

func TestZeroValuesAndCopiesDontPanic(t *testing.T) {
	var zero Pages
	zero.Now()
	zero.Saved()
	zero.Sense(api.Cmd{Page: 0x3f})
	zero.Select(api.Cmd{Save: true}, short(cachingPage(Default())))
	twin := *New(Default())
	twin.Now()
	twin.Saved()
	twin.Sense(api.Cmd{Page: 0x3f, Control: 3})
	twin.Select(api.Cmd{Save: true}, short(controlPage(Values{SWP: true})))
}
