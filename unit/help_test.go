package unit

import (
	"bytes"
	"encoding/binary"
	"encoding/hex"
	"slices"
	"strings"
	"testing"

	"pallet/api"
	"pallet/inq"
	"pallet/slots"
	"pallet/world"
	"pallet/xcopy"
)

// mustHex tells the bytes of a text in base 16; blanks are for the eye.
func mustHex(text string) []byte {
	p, err := hex.DecodeString(strings.ReplaceAll(text, " ", ""))
	if err != nil {
		panic(err)
	}
	return p
}

// fill tells n bytes.
func fill(b byte, n int) []byte { return bytes.Repeat([]byte{b}, n) }

// with tells a copy of p with another byte at a place.
func with(p []byte, at int, b byte) []byte {
	p = bytes.Clone(p)
	p[at] = b
	return p
}

// Commands.

var (
	ready     = mustHex("00 0000000000")
	reqSense  = mustHex("03 000000ff00")
	inquiry   = mustHex("12 000000ff00")
	luns      = mustHex("a0 00 00 000000 000000ff 0000")
	read0     = mustHex("28 00 00000000 00 0001 00")
	write0    = mustHex("2a 00 00000000 00 0001 00")
	writeFUA0 = mustHex("2a 08 00000000 00 0001 00")
	syncAll   = mustHex("35 00 00000000 00 0000 00")
)

// sample is a command of each kind on the block 0, right in itself, with what comes with it.
type sample struct {
	kind     api.Kind
	cmd, out []byte
}

func samples() []sample {
	block := fill(0, 16)
	return []sample{
		{api.TestReady, ready, nil},
		{api.RequestSense, reqSense, nil},
		{api.Inquiry, inquiry, nil},
		{api.ModeSelect, modeSelect(false, 4), make([]byte, 4)},
		{api.ModeSense, modeSense(0x3f, 0), nil},
		{api.ReadCapacity, mustHex("25 000000000000000000"), nil},
		{api.Read, read0, nil},
		{api.Write, write0, block},
		{api.WriteVerify, mustHex("2e 00 00000000 00 0001 00"), block},
		{api.Verify, mustHex("2f 00 00000000 00 0001 00"), nil},
		{api.SyncCache, syncAll, nil},
		{api.WriteSame, mustHex("41 00 00000000 00 0001 00"), block},
		{api.Unmap, mustHex("42 000000000000 0018 00"), mustHex("0016 0010 00000000 0000000000000000 00000001 00000000")},
		{api.CompareWrite, mustHex("89 00 0000000000000000 000000 01 0000"), fill(0, 32)},
		{api.PRIn, prIn(0), nil},
		{api.PROut, prOut(6, 0), keys(0, 0, false)},
		{api.ReportLuns, luns, nil},
		{api.Copy, copyCmd(0), nil},
	}
}

func modeSense(page, control byte) []byte { return []byte{0x1a, 0, control<<6 | page, 0, 0xff, 0} }

func modeSelect(save bool, n int) []byte {
	p := []byte{0x15, 0x10, 0, 0, byte(n), 0}
	if save {
		p[1] |= 1
	}
	return p
}

func prIn(service byte) []byte { return []byte{0x5e, service, 0, 0, 0, 0, 0, 0, 0xff, 0} }

func prOut(service, kind byte) []byte { return []byte{0x5f, service, kind, 0, 0, 0, 0, 0, 24, 0} }

func copyCmd(n int) []byte {
	p := make([]byte, 16)
	p[0] = 0x83
	binary.BigEndian.PutUint32(p[10:], uint32(n))
	return p
}

// What comes with commands.

// keys tells the parameters of PROut.
func keys(key, action uint64, aptpl bool) []byte {
	p := make([]byte, 24)
	binary.BigEndian.PutUint64(p, key)
	binary.BigEndian.PutUint64(p[8:], action)
	if aptpl {
		p[20] = 1
	}
	return p
}

// values tells the parameters of ModeSelect that make the values those of a byte: 1 WCE, 2 DSense, 4 SWP.
func values(b byte) []byte {
	p := make([]byte, 4+20+12)
	p[4], p[5], p[6] = 0x08, 0x12, b&1<<2
	p[24], p[25], p[26], p[28] = 0x0a, 0x0a, b&2<<1, b&4<<1
	return p
}

// Answers.

func wrong(key byte, code uint16) api.Result {
	return api.Result{Status: 2, Sense: api.Sense{Key: key, Code: code}}
}

func wrongAt(key byte, code uint16, n uint64) api.Result {
	return api.Result{Status: 2, Sense: api.Sense{Key: key, Code: code, Info: n, HasInfo: true}}
}

func inField(code uint16, field, bit int, inCmd bool) api.Result {
	return api.Result{Status: 2, Sense: api.Sense{Key: 5, Code: code, Field: field, Bit: bit, HasField: true, InCmd: inCmd}}
}

func attention(code uint16) api.Result { return wrong(6, code) }

func fine(data []byte) api.Result { return api.Result{Data: data} }

var (
	conflicts = api.Result{Status: 0x18}
	noUnit    = wrong(5, 0x2500)
	notReady  = wrong(2, 0)
	badLength = wrong(5, 0x1a00)
	protected = wrong(7, 0x2700)
	badWrite  = wrong(3, 0x0c00)
)

func alike(a, b api.Result) bool {
	return a.Status == b.Status && a.Sense == b.Sense && bytes.Equal(a.Data, b.Data)
}

// want has a unit do a command, and holds its answer against the one that is wanted.
func want(t *testing.T, u *Unit, nexus int, cmd, out []byte, wanted api.Result) {
	t.Helper()
	if got := u.Do(nexus, cmd, out); !alike(got, wanted) {
		t.Fatalf("Do(%d, %x, %x) = %+v; want %+v", nexus, cmd, out, got, wanted)
	}
}

func wantCalls(t *testing.T, w *world.World, n int) {
	t.Helper()
	if w.Ops() != n {
		t.Fatalf("%d calls; want %d", w.Ops(), n)
	}
}

// wantWaiting holds what a nexus has still to be told against codes, and has it told all of that.
func wantWaiting(t *testing.T, u *Unit, nexus int, codes ...uint16) {
	t.Helper()
	for _, code := range codes {
		want(t, u, nexus, ready, nil, attention(code))
	}
	if r := u.Do(nexus, ready, nil); r.Status == 2 {
		t.Fatalf("nexus %d: %+v waits behind %04x", nexus, r.Sense, codes)
	}
}

func wantTable(t *testing.T, u *Unit, kind byte, holder int, wanted ...api.Reg) {
	t.Helper()
	if regs, k, h := u.Table(); !slices.Equal(regs, wanted) || k != kind || h != holder {
		t.Fatalf("Table = %v, %d, %d; want %v, %d, %d", regs, k, h, wanted, kind, holder)
	}
}

// wantValues holds the current and the saved values, each as a byte, against those that are wanted. The nexus must be one that nothing keeps off.
func wantValues(t *testing.T, u *Unit, nexus int, now, saved byte) {
	t.Helper()
	for control, v := range map[byte]byte{0: now, 3: saved} {
		r := u.Do(nexus, modeSense(0x3f, control), nil)
		if r.Status != 0 || !bytes.Equal(r.Data[4:], values(v)[4:]) {
			t.Fatalf("the values (control %d) are %+v; want %d", control, r, v)
		}
	}
	if u.Described() != (now&2 != 0) {
		t.Fatalf("Described = %v with the values %d", u.Described(), now)
	}
}

// wantBlocks holds the data of the first blocks, each filled with one byte, against those that are wanted.
func wantBlocks(t *testing.T, u *Unit, nexus int, wanted ...byte) {
	t.Helper()
	var p []byte
	for _, b := range wanted {
		p = append(p, fill(b, 16)...)
	}
	want(t, u, nexus, with(read0, 8, byte(len(wanted))), nil, fine(p))
}

// Units.

func config(serial string, blocks int) Config {
	return Config{Info: inq.Info{Vendor: "V", Product: "P", Rev: "R", Serial: serial}, Blocks: blocks}
}

// newUnit tells a unit of 4 blocks whose files are named like its serial.
func newUnit(t *testing.T, w *world.World, serial string) *Unit {
	t.Helper()
	return makeUnit(t, w, serial, config(serial, 4))
}

func makeUnit(t *testing.T, w *world.World, name string, c Config) *Unit {
	t.Helper()
	u, e := New(w, name, c)
	if e != api.OK || u == nil {
		t.Fatalf("New(%q, %+v) = %v, %d", name, c, u, e)
	}
	return u
}

// wake has each nexus told that the power came on, and no call is counted then.
func wake(t *testing.T, w *world.World, u *Unit) *Unit {
	t.Helper()
	for nexus := range 8 {
		want(t, u, nexus, ready, nil, attention(0x2900))
	}
	w.Plan(nil, -1)
	return u
}

// awake tells a new unit of a new world of which nothing waits to be told.
func awake(t *testing.T) (*world.World, *Unit) {
	t.Helper()
	w := world.New()
	return w, wake(t, w, newUnit(t, w, "s"))
}

// calm has a nexus told all that waits for it.
func calm(u *Unit, nexus int) {
	for range 9 {
		u.Do(nexus, reqSense, nil)
	}
}

func calmAll(u *Unit) {
	for nexus := range 8 {
		calm(u, nexus)
	}
}

// register gives a nexus a key, whatever it had.
func register(t *testing.T, u *Unit, nexus int, key uint64, aptpl bool) {
	t.Helper()
	want(t, u, nexus, prOut(6, 0), keys(0, key, aptpl), fine(nil))
}

// reserve has a nexus hold a reservation; its key is its number and 1 more.
func reserve(t *testing.T, u *Unit, nexus int, kind byte, aptpl bool) {
	t.Helper()
	register(t, u, nexus, uint64(nexus)+1, aptpl)
	want(t, u, nexus, prOut(1, kind), keys(uint64(nexus)+1, 0, false), fine(nil))
}

// setValues makes the current values those of a byte; saved ones too, with save.
func setValues(t *testing.T, u *Unit, nexus int, b byte, save bool) {
	t.Helper()
	p := values(b)
	want(t, u, nexus, modeSelect(save, len(p)), p, fine(nil))
}

// laySlot keeps a payload, as a unit with files of that name would, and no call is counted then.
func laySlot(t *testing.T, w *world.World, name string, payload []byte) {
	t.Helper()
	k, e := slots.Open(w, name+".p")
	if e != api.OK {
		t.Fatalf("Open = %d", e)
	}
	if _, e := k.Save(payload); e != api.OK {
		t.Fatalf("Save = %d", e)
	}
	w.Plan(nil, -1)
}

// kept tells the payload that is kept for a unit with files of that name; no call is counted then.
func kept(t *testing.T, w *world.World, name string) string {
	t.Helper()
	k, e := slots.Open(w, name+".p")
	if e != api.OK {
		t.Fatalf("Open = %d", e)
	}
	p, _, e := k.Load()
	w.Plan(nil, -1)
	if e == api.ErrNone {
		return "none"
	}
	if e != api.OK {
		t.Fatalf("Load = %d", e)
	}
	return string(p)
}

// segments tells the parameters of a copy.
func segments(units []string, segs ...xcopy.Seg) []byte {
	p, e := xcopy.Bytes(xcopy.List{Units: units, Segs: segs})
	if e != api.OK {
		panic(e)
	}
	return p
}

// files tells all that is seen in files, as a text; no call is to fail, and none is counted then.
func files(w *world.World) string {
	w.Plan(nil, -1)
	var text strings.Builder
	for _, name := range w.Names() {
		p, _ := w.Read(name, 0, api.MaxFile)
		text.WriteString(name + " " + hex.EncodeToString(p) + "\n")
	}
	w.Plan(nil, -1)
	return text.String()
}
