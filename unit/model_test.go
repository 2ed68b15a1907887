package unit

import (
	"bytes"
	"encoding/binary"
	"math/rand"
	"slices"
	"testing"

	"pallet/api"
	"pallet/cdb"
	"pallet/inq"
	"pallet/mode"
	"pallet/pr"
	"pallet/sbc"
	"pallet/sense"
	"pallet/slots"
	"pallet/store"
	"pallet/world"
	"pallet/xcopy"
)

// model is the chapter told in another way, over a world of its own: a command ends by a panic with its result, whatever ends it.
type model struct {
	info    inq.Info
	s       *store.Store
	k       *slots.Slots
	now     *mode.Pages
	table   *pr.Table
	waiting map[int][]uint16
	peers   []*model
	awake   bool
	fault   api.Errno
	count   int64
}

func newModel(w *world.World, name string, c Config) *model {
	s, _ := store.Open(w, name+".d", c.Blocks, true)
	k, _ := slots.Open(w, name+".p")
	return &model{info: c.Info, s: s, k: k, now: mode.New(mode.Values{WCE: true}), table: pr.New(), waiting: map[int][]uint16{}}
}

func (m *model) start() api.Errno {
	if m.awake {
		return m.fault
	}
	m.awake = true
	m.reset()
	p, _, e := m.k.Load()
	if e == api.ErrNone {
		return 0
	}
	if e == 0 && (len(p) < 1 || p[0] >= 8) {
		e = api.ErrForm
	}
	if e == 0 {
		var table *pr.Table
		table, e = pr.Load(p[1:])
		if e == 0 {
			m.table = table
			m.now = mode.New(mode.Values{WCE: p[0]%2 == 1, DSense: p[0]/2%2 == 1, SWP: p[0]/4 == 1})
			m.s.SetCache(p[0]%2 == 1)
		}
	}
	m.fault = e
	return e
}

// Queues, as lists that are looked through by the codes' ranks.

func (m *model) reset() {
	for nexus := range 8 {
		m.waiting[nexus] = []uint16{0x2900}
	}
}

func (m *model) add(nexus int, code uint16) {
	if !slices.Contains(m.waiting[nexus], code) {
		m.waiting[nexus] = append(m.waiting[nexus], code)
	}
}

func (m *model) next(nexus int) (uint16, bool) {
	list := m.waiting[nexus]
	at := slices.IndexFunc(list, func(code uint16) bool { return code != 0x2a01 })
	if at < 0 {
		at = 0
	}
	if len(list) == 0 {
		return 0, false
	}
	m.waiting[nexus] = slices.Concat(list[:at], list[at+1:])
	return list[at], true
}

func (m *model) keep() {
	v := m.now.Saved()
	b := map[bool]byte{true: 1}
	payload := []byte{b[v.WCE] + 2*b[v.DSense] + 4*b[v.SWP]}
	if _, e := m.k.Save(append(payload, m.table.Save()...)); e != 0 {
		panic(badWrite)
	}
}

func (m *model) do(nexus int, cmd, out []byte) (r api.Result) {
	defer func() {
		if why := recover(); why != nil {
			r = why.(api.Result)
		}
	}()
	fault := m.start()
	if nexus < 0 || nexus > 7 {
		panic(noUnit)
	}
	m.count++
	if fault != 0 {
		panic(notReady)
	}
	c, why, ok := cdb.Parse(cmd)
	if !ok {
		panic(api.Result{Status: 2, Sense: why})
	}
	m.first(nexus, c.Kind)
	if data := m.data(nexus, c); data != nil {
		return fine(data[:min(len(data), c.Alloc)])
	}
	switch c.Kind {
	case api.TestReady:
		return fine(nil)
	case api.ModeSelect:
		m.modeSelect(nexus, c, out)
		return fine(nil)
	case api.PROut:
		m.reserveOut(nexus, c, out)
		return fine(nil)
	case api.Copy:
		return m.copies(nexus, c, out)
	}
	return (&sbc.Dev{Store: m.s, Prot: m.info.Prot}).Do(c, out)
}

// first is what applies whatever a command wants: by a table of what is looked at of each kind: a attention, r reads, w writes, p protected.
func (m *model) first(nexus int, k api.Kind) {
	looked := [...]string{
		api.TestReady: "ar", api.RequestSense: "", api.Inquiry: "", api.ModeSelect: "aw", api.ModeSense: "ar",
		api.ReadCapacity: "a", api.Read: "ar", api.Write: "awp", api.WriteVerify: "awp", api.Verify: "ar", api.SyncCache: "aw",
		api.WriteSame: "awp", api.Unmap: "awp", api.CompareWrite: "awp", api.PRIn: "a", api.PROut: "a", api.ReportLuns: "",
		api.Copy: "aw",
	}
	for _, x := range looked[k] {
		switch x {
		case 'a':
			if code, ok := m.next(nexus); ok {
				panic(attention(code))
			}
		case 'r', 'w':
			if m.table.Conflict(nexus, map[rune]pr.Class{'r': pr.Reads, 'w': pr.Writes}[x]) {
				panic(conflicts)
			}
		case 'p':
			if m.now.Now().SWP {
				panic(protected)
			}
		}
	}
}

// data tells all data of a command that wants some but blocks.
func (m *model) data(nexus int, c api.Cmd) []byte {
	switch c.Kind {
	case api.RequestSense:
		var s api.Sense
		if code, ok := m.next(nexus); ok {
			s.Key, s.Code = 6, code
		}
		p, _ := sense.Fixed(s)
		if c.Long {
			p, _ = sense.Described(s)
		}
		return p
	case api.Inquiry:
		if !c.EVPD {
			return inq.Standard(m.info)
		}
		p, ok := inq.Page(m.info, c.Page)
		if !ok {
			panic(inField(0x2400, 2, 7, true))
		}
		return p
	case api.ReportLuns:
		return mustHex("00000008 00000000 0000000000000000")
	case api.ModeSense:
		p, why, ok := m.now.Sense(c)
		if !ok {
			panic(api.Result{Status: 2, Sense: why})
		}
		return p
	case api.PRIn:
		return m.reserveIn(c)
	}
	return nil
}

func (m *model) reserveIn(c api.Cmd) []byte {
	if c.Service == 2 {
		return mustHex("00080180ea010000")
	}
	var body bytes.Buffer
	kind, holder := m.table.Reserved()
	for _, r := range m.table.Regs() {
		switch c.Service {
		case 0:
			binary.Write(&body, binary.BigEndian, r.Key)
		case 1:
			if r.Nexus == holder {
				binary.Write(&body, binary.BigEndian, [2]uint64{r.Key, uint64(kind) << 16})
			}
		case 3:
			flags := [4]byte{3: byte(r.Nexus)}
			if m.table.Holds(r.Nexus) {
				flags[0], flags[1] = 1, kind
			}
			binary.Write(&body, binary.BigEndian, r.Key)
			body.Write(flags[:])
		}
	}
	if c.Service == 1 && kind >= 7 {
		binary.Write(&body, binary.BigEndian, [2]uint64{0, uint64(kind) << 16})
	}
	var all bytes.Buffer
	binary.Write(&all, binary.BigEndian, [2]uint32{m.table.Gen(), uint32(body.Len())})
	return append(all.Bytes(), body.Bytes()...)
}

func (m *model) modeSelect(nexus int, c api.Cmd, out []byte) {
	if len(out) != c.Alloc {
		panic(badLength)
	}
	was := m.now.Now()
	if _, why, ok := m.now.Select(c, out); !ok {
		panic(api.Result{Status: 2, Sense: why})
	}
	m.s.SetCache(m.now.Now().WCE)
	for other := range 8 {
		if other != nexus && was != m.now.Now() {
			m.add(other, 0x2a01)
		}
	}
	if c.Save && c.Alloc > 0 {
		m.keep()
	}
}

// outList is what comes with PROut, as the library reads it.
type outList struct {
	Key, Action uint64
	Rest        [8]byte
}

func (m *model) reserveOut(nexus int, c api.Cmd, out []byte) {
	if c.Alloc != 24 || len(out) != 24 {
		panic(badLength)
	}
	var l outList
	binary.Read(bytes.NewReader(out), binary.BigEndian, &l)
	aptpl := l.Rest[4]%2 == 1
	l.Rest[4] &= 0xfe
	for i := range 64 {
		if at, bit := i/8, 7-i%8; l.Rest[at]>>bit&1 == 1 {
			panic(inField(0x2600, 16+at, bit, false))
		}
	}
	lasted := m.table.Lasts()
	st, code, events := m.table.Do(nexus, pr.Out{Service: c.Service, Type: c.Type, Key: l.Key, Action: l.Action, APTPL: aptpl})
	switch st {
	case 0x18:
		panic(conflicts)
	case 2:
		panic(wrong(5, code))
	}
	for _, e := range events {
		m.add(e.Nexus, e.Code)
	}
	if lasted || m.table.Lasts() {
		m.keep()
	}
}

func (m *model) copies(nexus int, c api.Cmd, out []byte) api.Result {
	if len(out) != c.Alloc {
		panic(badLength)
	}
	l, why, ok := xcopy.Parse(out)
	if !ok {
		panic(api.Result{Status: 2, Sense: why})
	}
	var devs []xcopy.Named
	for _, x := range append([]*model{m}, m.peers...) {
		if x.start() != 0 {
			continue
		}
		d := xcopy.Named{Serial: x.info.Serial, Dev: &sbc.Dev{Store: x.s, Prot: x.info.Prot}}
		if x.table.Conflict(nexus, pr.Reads) {
			d.Shut = 1
		}
		if x.table.Conflict(nexus, pr.Writes) || x.now.Now().SWP {
			d.Shut += 2
		}
		devs = append(devs, d)
	}
	_, r := xcopy.Run(l, devs)
	return r
}

// both are units over one world, and models of them over another one, to be told the same.
type both struct {
	w, mw   *world.World
	configs []Config
	units   []*Unit
	models  []*model
}

func newBoth(t *testing.T, r *rand.Rand) *both {
	t.Helper()
	b := &both{w: world.New(), mw: world.New()}
	for i := range 3 {
		c := config([]string{"a", "b", "c"}[i], 1+r.Intn(6))
		c.Info.Prot = byte(r.Intn(4))
		if i == 2 && r.Intn(4) == 0 {
			c.Info.Serial = "a"
		}
		b.configs = append(b.configs, c)
	}
	b.units, b.models = make([]*Unit, 3), make([]*model, 3)
	b.renewAll(t)
	return b
}

// renew makes a unit anew.
func (b *both) renew(t *testing.T, i int) {
	t.Helper()
	name := []string{"x", "y", "z"}[i]
	b.units[i] = makeUnit(t, b.w, name, b.configs[i])
	b.models[i] = newModel(b.mw, name, b.configs[i])
}

func (b *both) renewAll(t *testing.T) {
	t.Helper()
	for i := range b.units {
		b.renew(t, i)
	}
	for i := range b.units {
		b.peers(i, []int{0, 1, 2})
	}
}

// peers tells a unit its peers, by their places; a place that there is not stands for nil.
func (b *both) peers(i int, places []int) {
	var list []*Unit
	b.models[i].peers = nil
	for _, p := range places {
		if p >= len(b.units) {
			list = append(list, nil)
			continue
		}
		list = append(list, b.units[p])
		if p != i {
			b.models[i].peers = append(b.models[i].peers, b.models[p])
		}
	}
	b.units[i].Peers(list)
}

func (b *both) plan(fails []int, stop int) {
	b.w.Plan(fails, stop)
	b.mw.Plan(fails, stop)
}

func (b *both) crash(keep, cut int) {
	b.w.Crash(keep, cut)
	b.mw.Crash(keep, cut)
}

// do has a unit and its model do a command, and holds all that they tell against each other.
func (b *both) do(t *testing.T, i, nexus int, cmd, out []byte) api.Result {
	t.Helper()
	got, wanted := b.units[i].Do(nexus, cmd, out), b.models[i].do(nexus, cmd, out)
	if !alike(got, wanted) {
		t.Fatalf("unit %d: Do(%d, %x, %x) = %+v; want %+v", i, nexus, cmd, out, got, wanted)
	}
	if b.w.Ops() != b.mw.Ops() || b.w.Waits() != b.mw.Waits() || b.w.Off() != b.mw.Off() {
		t.Fatalf("unit %d: Do(%d, %x, %x): %d calls, %d changes wait, off %v; want %d, %d, %v", i, nexus, cmd, out,
			b.w.Ops(), b.w.Waits(), b.w.Off(), b.mw.Ops(), b.mw.Waits(), b.mw.Off())
	}
	for i, u := range b.units {
		m := b.models[i]
		kind, holder := m.table.Reserved()
		wantTable(t, u, kind, holder, m.table.Regs()...)
		if u.Count() != m.count || u.Described() != m.now.Now().DSense {
			t.Fatalf("unit %d: Count = %d, Described = %v; want %d, %v", i, u.Count(), u.Described(), m.count, m.now.Now().DSense)
		}
	}
	return got
}

// key tells the key with which a nexus is registered; 0: it isn't.
func (b *both) key(i, nexus int) uint64 {
	regs, _, _ := b.units[i].Table()
	for _, x := range regs {
		if x.Nexus == nexus {
			return x.Key
		}
	}
	return 0
}

// Random commands.

func anyCommand(r *rand.Rand) ([]byte, []byte) {
	lba, n := byte(r.Intn(6)), byte(r.Intn(3))
	prot := byte(0)
	if r.Intn(4) == 0 {
		prot = byte(r.Intn(5)) << 5
	}
	size := 16
	if prot > 0 {
		size = 24
	}
	blocks := fill(byte(r.Intn(2)), size*int(n))
	switch r.Intn(18) {
	case 0:
		return ready, nil
	case 1:
		return []byte{3, byte(r.Intn(2)), 0, 0, byte(r.Intn(24)), 0}, nil
	case 2:
		evpd := byte(r.Intn(2))
		return []byte{0x12, evpd, evpd * []byte{0, 0x80, 0x83, 0xb0, 0x81}[r.Intn(5)], 0, byte(r.Intn(99)), 0}, nil
	case 3:
		return with(luns, 9, byte(r.Intn(20))), nil
	case 4:
		return modeSense([]byte{8, 10, 63, 9}[r.Intn(4)], byte(r.Intn(4))), nil
	case 5, 6:
		p := append(values(byte(r.Intn(8))), values(byte(r.Intn(8)))[4:]...)
		p = p[:[]int{0, 4, 24, 36, 56, 68, 30}[r.Intn(7)]]
		return modeSelect(r.Intn(2) == 0, len(p)), p
	case 7:
		return with(prIn(byte(r.Intn(4))), 8, byte(r.Intn(70))), nil
	case 8, 9, 10:
		kind := []byte{1, 3, 5, 6, 7, 8, 2}[r.Intn(7)]
		service := []byte{0, 6, 6, 6, 1, 1, 1, 2, 2, 3, 4, 5}[r.Intn(12)]
		return prOut(service, kind), keys(uint64(r.Intn(3)), uint64(r.Intn(9)+1)/3, r.Intn(2) == 0)
	case 11:
		return anyCopy(r)
	case 12:
		return []byte{0x28, prot, 0, 0, 0, lba, 0, 0, n, 0}, nil
	case 13:
		return []byte{[]byte{0x2a, 0x2e}[r.Intn(2)], prot, 0, 0, 0, lba, 0, 0, n, 0}, blocks
	case 14:
		return []byte{0x2a, prot | 8, 0, 0, 0, lba, 0, 0, n, 0}, blocks
	case 15:
		return []byte{0x41, byte(r.Intn(2)) << 3, 0, 0, 0, lba, 0, 0, n, 0}, fill(byte(r.Intn(2)), 16)
	case 16:
		return syncAll, nil
	}
	x := samples()[r.Intn(len(samples()))]
	return x.cmd, x.out
}

func anyCopy(r *rand.Rand) ([]byte, []byte) {
	l := xcopy.List{Units: []string{"a", "b", "c", "d"}[:3+r.Intn(2)]}
	for range r.Intn(4) {
		l.Segs = append(l.Segs, xcopy.Seg{
			From: r.Intn(len(l.Units)), To: r.Intn(len(l.Units)), Blocks: r.Intn(3), Src: uint64(r.Intn(4)), Dst: uint64(r.Intn(4)),
		})
	}
	p, _ := xcopy.Bytes(l)
	return copyCmd(len(p)), p
}

// spoilt changes a command, or what comes with it, a little.
func spoilt(r *rand.Rand, cmd, out []byte) ([]byte, []byte) {
	cmd, out = bytes.Clone(cmd), bytes.Clone(out)
	switch r.Intn(4) {
	case 0:
		cmd[r.Intn(len(cmd))] ^= 1 << r.Intn(8)
	case 1:
		cmd = cmd[:r.Intn(len(cmd))]
	case 2:
		out = append(out, byte(r.Intn(2)))
	default:
		if len(out) > 0 {
			out[r.Intn(len(out))] ^= 1 << r.Intn(8)
		}
	}
	return cmd, out
}

func anyNexus(r *rand.Rand) int {
	if r.Intn(40) == 0 {
		return []int{-1, 8, 1 << 40}[r.Intn(3)]
	}
	if r.Intn(10) == 0 {
		return r.Intn(8)
	}
	return r.Intn(3)
}

func TestAnyCommandsAsTheModel(t *testing.T) {
	ends := map[uint16]int{}
	statuses := map[api.Status]int{}
	for seed := range int64(400) {
		r := rand.New(rand.NewSource(seed))
		b := newBoth(t, r)
		for range 400 {
			i := r.Intn(3)
			switch r.Intn(200) {
			case 0:
				b.plan([]int{r.Intn(4), r.Intn(9)}, r.Intn(24)-12)
			case 1:
				b.crash(r.Intn(5), r.Intn(60))
				b.renewAll(t)
			case 2:
				b.renew(t, i)
			case 3:
				b.units[i].Reset()
				b.models[i].reset()
			case 4:
				b.peers(i, []int{r.Intn(4), r.Intn(4), r.Intn(4)}[:r.Intn(4)])
			case 5:
				if got, wanted := b.units[i].Start(), b.models[i].start(); got != wanted {
					t.Fatalf("Start = %d; want %d", got, wanted)
				}
			}
			cmd, out := anyCommand(r)
			if r.Intn(12) == 0 {
				cmd, out = spoilt(r, cmd, out)
			}
			nexus := anyNexus(r)
			if cmd, out = bytes.Clone(cmd), bytes.Clone(out); len(cmd) == 10 && cmd[0] == 0x5f && len(out) == 24 && r.Intn(3) > 0 {
				binary.BigEndian.PutUint64(out, b.key(i, nexus))
				if _, kind, _ := b.units[i].Table(); kind != 0 && r.Intn(2) == 0 {
					cmd[2] = kind
				}
			}
			res := b.do(t, i, nexus, cmd, out)
			ends[res.Sense.Code]++
			statuses[res.Status]++
			if b.w.Off() && r.Intn(3) == 0 {
				b.crash(r.Intn(5), r.Intn(60))
				b.renewAll(t)
			}
		}
		b.crash(9999, 0)
		if files(b.w) != files(b.mw) {
			t.Fatalf("seed %d: the files are\n%s; want\n%s", seed, files(b.w), files(b.mw))
		}
	}
	for _, code := range []uint16{
		0, 0x0c00, 0x0d02, 0x1100, 0x1a00, 0x2000, 0x2100, 0x2400, 0x2500, 0x2600, 0x2700, 0x2900, 0x2a01, 0x2a03, 0x2a04, 0x2a05,
	} {
		if ends[code] < 30 {
			t.Errorf("only %d commands ended with %04x", ends[code], code)
		}
	}
	if statuses[0] < 10000 || statuses[0x18] < 1000 {
		t.Errorf("only %d commands were Good, %d in conflict", statuses[0], statuses[0x18])
	}
}

// P1 and P2: any bytes are answered, and the same ones twice in the same way.
func TestAnyBytes(t *testing.T) {
	for seed := range int64(300) {
		r := rand.New(rand.NewSource(seed))
		b := newBoth(t, r)
		for range 100 {
			cmd, out := make([]byte, r.Intn(20)), make([]byte, r.Intn(40))
			r.Read(cmd)
			r.Read(out)
			if len(cmd) > 0 && r.Intn(2) == 0 {
				op, _ := anyCommand(r)
				cmd[0] = op[0]
				for i := 1; i < len(cmd); i++ {
					cmd[i] &= byte(r.Uint32() & r.Uint32() & r.Uint32())
				}
			}
			b.do(t, r.Intn(3), anyNexus(r), cmd, out)
		}
	}
}
