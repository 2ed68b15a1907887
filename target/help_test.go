package target

import (
	"bytes"
	"encoding/hex"
	"fmt"
	"slices"
	"strings"
	"testing"

	"pallet/api"
	"pallet/inq"
	"pallet/login"
	"pallet/pdu"
	"pallet/unit"
	"pallet/world"
)

// mustHex tells the bytes of a text in base 16; blanks are for the eye.
func mustHex(text string) []byte {
	p, err := hex.DecodeString(strings.ReplaceAll(text, " ", ""))
	if err != nil {
		panic(err)
	}
	return p
}

// fill tells n bytes.
func fill(b byte, n int) []byte { return bytes.Repeat([]byte{b}, n) }

// Commands.

var (
	ready   = mustHex("00 00 00 00 00 00")
	inquiry = mustHex("12 00 00 00 24 00")
	luns    = mustHex("a0 00 00 00 00 00 00 00 01 00 00 00")
)

func read(lba, blocks byte) []byte { return []byte{0x28, 0, 0, 0, 0, lba, 0, 0, blocks, 0} }

func write(lba, blocks byte) []byte { return []byte{0x2a, 0, 0, 0, 0, lba, 0, 0, blocks, 0} }

func writeFUA(lba, blocks byte) []byte { return []byte{0x2a, 8, 0, 0, 0, lba, 0, 0, blocks, 0} }

func prOut(service, kind byte) []byte { return []byte{0x5f, service, kind, 0, 0, 0, 0, 0, 24, 0} }

// keys tells the parameters of PROut, with small keys.
func keys(key, action byte, lasts bool) []byte {
	p := make([]byte, 24)
	p[7], p[15] = key, action
	if lasts {
		p[20] = 1
	}
	return p
}

// describe is a MODE SELECT of the control page with DSense, and what comes with it.
func describe() ([]byte, []byte) {
	return mustHex("15 10 00 00 10 00"), mustHex("00 00 00 00 0a 0a 04 00 00 00 00 00 00 00 00 00")
}

// PDUs.

const (
	reads  = 0x40
	writes = 0x20
)

// loginReq tells a LoginReq: its flags, and its keys, one behind the other.
func loginReq(flags byte, pairs ...string) api.PDU {
	var text string
	for _, one := range pairs {
		text += one + "\x00"
	}
	return api.PDU{Op: 0x43, Flags: flags, Tag: 77, Words: [7]uint32{0, 5}, Data: []byte(text)}
}

// asInitiator tells the keys of an ordinary login, and more.
func asInitiator(name string, more ...string) []string {
	return append([]string{"InitiatorName=" + name, "TargetName=t"}, more...)
}

// command tells a Command that is done at once.
func command(lun byte, tag uint32, flags byte, want int, cdb []byte, data ...byte) api.PDU {
	p := api.PDU{Op: 0x41, Flags: 0x80 | flags, LUN: lun, Tag: tag, Words: [7]uint32{uint32(want)}, Data: data}
	for at, b := range cdb {
		p.Words[3+at/4] |= uint32(b) << (24 - 8*(at%4))
	}
	return p
}

// plainTask tells TEST UNIT READY of an attribute as the flags tell it: 1 Simple, 2 Ordered, 3 Head, 4 ForACA.
func plainTask(lun byte, tag uint32, attr byte) api.PDU { return command(lun, tag, attr, 0, ready) }

func function(lun byte, tag uint32, code byte, ref uint32) api.PDU {
	return api.PDU{Op: 0x42, Flags: 0x80 | code, LUN: lun, Tag: tag, Words: [7]uint32{ref}}
}

func logout(tag uint32) api.PDU { return api.PDU{Op: 0x46, Flags: 0x80, Tag: tag} }

func nop(tag uint32) api.PDU { return api.PDU{Op: 0x40, Flags: 0x80, Tag: tag} }

// Targets.

func unitConfig(serial string, blocks int) unit.Config {
	return unit.Config{Info: inq.Info{Vendor: "V", Product: "P", Rev: "R", Serial: serial}, Blocks: blocks}
}

// usual tells a target of the units 0 to 2 and the initiators i, j and k: i sees the units 0 and 1 under 0 and 1, j the unit 0 under 0 and the unit 2 under 7, k nothing.
func usual() Config {
	return Config{
		Units:      []unit.Config{unitConfig("S0", 8), unitConfig("S1", 16), unitConfig("S2", 4)},
		Initiators: []string{"i", "j", "k"},
		Access:     []Access{{0, 0, 0}, {1, 7, 2}, {0, 1, 1}, {1, 0, 0}},
		Login:      login.Config{Targets: []string{"t"}},
	}
}

// rig is a target, and how much of what went out was looked at.
type rig struct {
	*Target
	t             *testing.T
	w             *world.World
	seen          [8]int
	headers, data [8]bool // the sums that its connections have
}

func newRig(t *testing.T, c Config) *rig {
	t.Helper()
	w := world.New()
	x, e := New(w, c)
	if e != api.OK || x == nil {
		t.Fatalf("New(%+v) = %v, %d", c, x, e)
	}
	return &rig{Target: x, t: t, w: w}
}

// do has an event happen that nothing is wrong with.
func (r *rig) do(e Event) {
	r.t.Helper()
	if got := r.Do(e); got != api.OK {
		r.t.Fatalf("Do(%v) = %d", e, got)
	}
}

func (r *rig) connect(n int) {
	r.t.Helper()
	r.do(Event{Kind: Connect, Conn: n})
	r.seen[n], r.headers[n], r.data[n] = 0, false, false
}

func (r *rig) bytesOf(n int, list ...api.PDU) []byte {
	r.t.Helper()
	var all []byte
	for _, p := range list {
		b, e := pdu.Encode(p, r.headers[n], r.data[n])
		if e != api.OK {
			r.t.Fatalf("Encode(%v) = %d", p, e)
		}
		all = append(all, b...)
	}
	return all
}

// send has PDUs come, all at once.
func (r *rig) send(n int, list ...api.PDU) {
	r.t.Helper()
	r.do(Event{Kind: Bytes, Conn: n, Data: r.bytesOf(n, list...)})
}

func (r *rig) step(pick int) {
	r.t.Helper()
	r.do(Event{Kind: Step, Pick: pick})
}

func (r *rig) crash(pick, cut int) {
	r.t.Helper()
	r.do(Event{Kind: Crash, Pick: pick, Cut: cut})
}

// news tells the PDUs that went out and were not yet looked at.
func (r *rig) news(n int) []api.PDU {
	r.t.Helper()
	p := r.Out(n)[r.seen[n]:]
	r.seen[n] += len(p)
	var list []api.PDU
	for len(p) > 0 {
		one, size, e := pdu.Decode(p, r.headers[n], r.data[n])
		if e != api.OK {
			r.t.Fatalf("what went out over %d: %x: %d", n, p, e)
		}
		list = append(list, one)
		p = p[size:]
	}
	return list
}

// wantNews holds what went out anew against what is wanted, each PDU told in short.
func (r *rig) wantNews(n int, wanted ...string) {
	r.t.Helper()
	var got []string
	for _, p := range r.news(n) {
		got = append(got, short(p))
	}
	if !slices.Equal(got, wanted) {
		r.t.Errorf("over %d went out %q; want %q", n, got, wanted)
	}
}

// short tells what matters most of a PDU that went out.
func short(p api.PDU) string {
	switch p.Op {
	case 0x21:
		text := fmt.Sprintf("response %d %02x", p.Tag, p.Stat)
		if len(p.Data) > 0 && p.Data[2]&0x7f == 0x70 {
			text += fmt.Sprintf(" fixed %x %02x%02x", p.Data[4], p.Data[14], p.Data[15])
		} else if len(p.Data) > 0 {
			text += fmt.Sprintf(" described %x %02x%02x", p.Data[3], p.Data[4], p.Data[5])
		}
		return text
	case 0x22:
		return fmt.Sprintf("told %d %d", p.Tag, p.Res)
	case 0x23:
		return fmt.Sprintf("login %02x %08x %s", p.Flags, p.Words[4], strings.ReplaceAll(string(p.Data), "\x00", ";"))
	case 0x24:
		return fmt.Sprintf("text %d %s", p.Tag, strings.ReplaceAll(string(p.Data), "\x00", ";"))
	case 0x25:
		return fmt.Sprintf("data %d %x", p.Tag, p.Data)
	case 0x3f:
		return fmt.Sprintf("refused %d", p.Res)
	}
	return fmt.Sprintf("%02x %d", p.Op, p.Tag)
}

// Answers, told in short.

func good(tag uint32) string { return fmt.Sprintf("response %d 00", tag) }

func powerOn(tag uint32) string { return fmt.Sprintf("response %d 02 fixed 6 2900", tag) }

func noUnit(tag uint32) string { return fmt.Sprintf("response %d 02 fixed 5 2500", tag) }

// dataIn: the data of a command, in base 16.
func dataIn(tag uint32, text string) string { return fmt.Sprintf("data %d %x", tag, mustHex(text)) }

// logIn has an initiator log in over a new connection, without a secret.
func (r *rig) logIn(n int, name string, more ...string) {
	r.t.Helper()
	r.connect(n)
	r.send(n, loginReq(0x87, asInitiator(name, more...)...))
	if list := r.news(n); len(list) != 1 || list[0].Op != 0x23 || list[0].Flags != 0x87 {
		r.t.Fatalf("the login of %s: %v", name, list)
	}
}

// awake has each nexus told of the power by each unit.
func (r *rig) awake() *rig {
	for i := range api.MaxUnits {
		for nexus := range api.MaxNexus {
			r.Unit(i).Do(nexus, ready, nil)
		}
	}
	return r
}

// twoIn tells a target to which i and j have logged in, over the connections 0 and 1, and have been told of the power.
func twoIn(t *testing.T) *rig {
	t.Helper()
	r := newRig(t, usual()).awake()
	r.logIn(0, "i")
	r.logIn(1, "j")
	return r
}

func (r *rig) wantReady(wanted int) {
	r.t.Helper()
	if got := r.Ready(); got != wanted {
		r.t.Errorf("Ready() = %d; want %d", got, wanted)
	}
}

// wantNexus holds the nexus of each connection, from 0 on, against those that are wanted; of those behind them it wants none.
func (r *rig) wantNexus(wanted ...int) {
	r.t.Helper()
	for n := range api.MaxNexus {
		want := -1
		if n < len(wanted) {
			want = wanted[n]
		}
		if got := r.Nexus(n); got != want {
			r.t.Errorf("Nexus(%d) = %d; want %d", n, got, want)
		}
	}
}

// wantThere: a connection is there, or it isn't.
func (r *rig) wantThere(n int, wanted bool) {
	r.t.Helper()
	got := r.Do(Event{Kind: Bytes, Conn: n}) == api.OK
	if got != wanted {
		r.t.Errorf("the connection %d is there: %v", n, got)
	}
	if !got && (len(r.Out(n)) != 0 || r.Nexus(n) != -1) {
		r.t.Errorf("of the connection %d, which isn't there: %x, %d", n, r.Out(n), r.Nexus(n))
	}
}

// runAll has all tasks run, the first one that may start first.
func (r *rig) runAll() {
	r.t.Helper()
	for r.Ready() > 0 {
		r.step(0)
	}
}
