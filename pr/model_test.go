package pr

import (
	"maps"
	"math/rand"
	"slices"
	"strconv"
	"testing"

	"pallet/api"
)

// model is the chapter told in another way: keys by nexus, and holders as a list of whom the reservation is.
type model struct {
	keys  map[int]uint64
	kind  byte
	owner int
	gen   uint64
	lasts bool
}

func newModel() *model { return &model{keys: map[int]uint64{}, owner: -1} }

func (m *model) copied() *model {
	c := *m
	c.keys = maps.Clone(m.keys)
	return &c
}

func (m *model) nexuses() []int { return slices.Sorted(maps.Keys(m.keys)) }

func (m *model) holders() []int {
	switch m.kind {
	case 0:
		return nil
	case 7, 8:
		return m.nexuses()
	}
	return []int{m.owner}
}

func (m *model) look() seen {
	s := seen{kind: m.kind, holder: -1, gen: uint32(m.gen), lasts: m.lasts}
	for _, nexus := range m.nexuses() {
		s.regs = append(s.regs, api.Reg{Nexus: nexus, Key: m.keys[nexus]})
	}
	if m.kind > 0 && m.kind < 7 {
		s.holder = m.owner
	}
	return s
}

func (m *model) toldAll(code uint16, but int) []Event {
	var out []Event
	for _, nexus := range m.nexuses() {
		if nexus != but {
			out = append(out, Event{nexus, code})
		}
	}
	return out
}

func (m *model) ends(nexus int) []Event {
	loud := m.kind > 4
	m.kind, m.owner = 0, -1
	if loud {
		return m.toldAll(0x2a04, nexus)
	}
	return nil
}

func (m *model) do(nexus int, o Out) (api.Status, uint16, []Event) {
	if nexus < 0 || nexus > 7 || o.Service > 6 {
		return 2, 0x2400, nil
	}
	key, registered := m.keys[nexus]
	if o.Service != 6 && o.Key != key || !registered && o.Service != 6 && o.Service != 0 {
		return 0x18, 0, nil
	}
	switch o.Service {
	case 1:
		return m.reserve(nexus, o)
	case 2:
		return m.release(nexus, o)
	case 3:
		events := m.toldAll(0x2a03, nexus)
		*m = model{keys: map[int]uint64{}, owner: -1, gen: m.gen + 1, lasts: m.lasts}
		return 0, 0, events
	case 4, 5:
		return m.preempt(nexus, o)
	}
	return 0, 0, m.register(nexus, o)
}

func (m *model) register(nexus int, o Out) []Event {
	m.gen++
	m.lasts = o.APTPL
	if o.Action != 0 {
		m.keys[nexus] = o.Action
		return nil
	}
	held := m.kind
	sole := slices.Equal(m.holders(), []int{nexus})
	delete(m.keys, nexus)
	if held != 0 && sole {
		return m.ends(nexus)
	}
	return nil
}

func isType(kind byte) bool { return slices.Contains(sixTypes(), kind) }

func (m *model) reserve(nexus int, o Out) (api.Status, uint16, []Event) {
	if !isType(o.Type) {
		return 2, 0x2400, nil
	}
	if m.kind == 0 {
		m.kind, m.owner = o.Type, nexus
		return 0, 0, nil
	}
	if slices.Contains(m.holders(), nexus) && m.kind == o.Type {
		return 0, 0, nil
	}
	return 0x18, 0, nil
}

func (m *model) release(nexus int, o Out) (api.Status, uint16, []Event) {
	if !slices.Contains(m.holders(), nexus) {
		return 0, 0, nil
	}
	if m.kind != o.Type {
		return 2, 0x2400, nil
	}
	return 0, 0, m.ends(nexus)
}

func (m *model) preempt(nexus int, o Out) (api.Status, uint16, []Event) {
	all := m.kind == 7 || m.kind == 8
	taken := all && o.Action == 0 || m.kind != 0 && !all && m.keys[m.owner] == o.Action
	if o.Action == 0 && !taken {
		return 2, 0x2600, nil
	}
	if taken && !isType(o.Type) {
		return 2, 0x2400, nil
	}
	if o.Action != 0 && !slices.Contains(slices.Collect(maps.Values(m.keys)), o.Action) {
		return 0x18, 0, nil
	}
	var events []Event
	for _, other := range m.nexuses() {
		if other != nexus && (o.Action == 0 || m.keys[other] == o.Action) {
			delete(m.keys, other)
			events = append(events, Event{other, 0x2a05})
		}
	}
	m.gen++
	if !taken {
		return 0, 0, events
	}
	if m.kind > 4 && m.kind != o.Type {
		events = append(events, m.toldAll(0x2a04, nexus)...)
	}
	m.kind, m.owner = o.Type, nexus
	return 0, 0, events
}

func (m *model) conflict(nexus int, c Class) bool {
	if m.kind == 0 || slices.Contains(m.holders(), nexus) {
		return false
	}
	_, registered := m.keys[nexus]
	reads, writes := kept(m.kind, registered)
	return c == 1 && reads || c > 1 && writes
}

func (m *model) save() []byte {
	if !m.lasts {
		return nil
	}
	p := []byte{0x50, 0x52, m.kind, byte(m.look().holder), byte(len(m.keys))}
	for _, nexus := range m.nexuses() {
		p = append(p, byte(nexus))
		for shift := 56; shift >= 0; shift -= 8 {
			p = append(p, byte(m.keys[nexus]>>shift))
		}
	}
	return p
}

// loadModel tells the model of which these are the bytes: it takes what they say, and looks whether that would be saved so and may be. nil: there is none.
func loadModel(p []byte) *model {
	if len(p) < 5 {
		return nil
	}
	m := newModel()
	m.lasts = true
	for at := 5; at+9 <= len(p); at += 9 {
		key := uint64(0)
		for _, b := range p[at+1 : at+9] {
			key = key*256 + uint64(b)
		}
		if key == 0 || p[at] > 7 {
			return nil
		}
		m.keys[int(p[at])] = key
	}
	m.kind, m.owner = p[2], int(p[3])
	_, registered := m.keys[m.owner]
	switch m.kind {
	case 0:
	case 7, 8:
		if len(m.keys) == 0 {
			return nil
		}
	default:
		if !isType(m.kind) || !registered {
			return nil
		}
	}
	if !slices.Equal(m.save(), p) {
		return nil
	}
	return m
}

// both is a table and the model of it, to be told the same.
type both struct {
	x *Table
	m *model
}

func (b both) copied() both {
	x := *b.x
	return both{&x, b.m.copied()}
}

// step does a service at both.
func (b both) step(t *testing.T, nexus int, o Out) {
	t.Helper()
	ahead := b.m.look()
	status, code, events := b.x.Do(nexus, o)
	s, c, e := b.m.do(nexus, o)
	if status != s || code != c || !slices.Equal(events, e) {
		t.Fatalf("%+v: Do(%d, %+v) = %x, %04x, %x; want %x, %04x, %x", ahead, nexus, o, status, code, events, s, c, e)
	}
	if !look(b.x).same(b.m.look()) {
		t.Fatalf("%+v: behind Do(%d, %+v) it is %+v; want %+v", ahead, nexus, o, look(b.x), b.m.look())
	}
}

// same holds all that the table tells against what the model does.
func (b both) same(t *testing.T) {
	t.Helper()
	if !look(b.x).same(b.m.look()) {
		t.Fatalf("%+v; want %+v", look(b.x), b.m.look())
	}
	wantHolders(t, b.x, b.m.holders()...)
	for _, nexus := range append(noNexus(), 0, 1, 2, 3, 4, 5, 6, 7) {
		for _, c := range []Class{0, 1, 2, 3, 255} {
			if b.x.Conflict(nexus, c) != b.m.conflict(nexus, c) {
				t.Fatalf("%+v: Conflict(%d, %d) = %t", b.m.look(), nexus, c, b.x.Conflict(nexus, c))
			}
		}
	}
	wantBytes(t, b.x.Save(), b.m.save())
	loaded := wantLoad(t, b.x.Save())
	wanted := newModel()
	if b.m.lasts {
		wanted = b.m.copied()
		wanted.gen = 0
	}
	if !look(loaded).same(wanted.look()) {
		t.Fatalf("loaded %+v; want %+v", look(loaded), wanted.look())
	}
}

// name tells states apart, but for the generation.
func (b both) name() string {
	s := b.m.look()
	name := strconv.Itoa(int(s.kind)) + " " + strconv.Itoa(s.holder) + " " + strconv.FormatBool(s.lasts)
	for _, r := range s.regs {
		name += " " + strconv.Itoa(r.Nexus) + ":" + strconv.FormatUint(r.Key, 16)
	}
	return name
}

// services has each service with each choice of these types and keys.
func services(types []byte, keys, actions []uint64) []Out {
	var out []Out
	for service := range byte(8) {
		for _, kind := range types {
			for _, key := range keys {
				for _, action := range actions {
					out = append(out, Out{Service: service, Type: kind, Key: key, Action: action, APTPL: service != 0})
				}
			}
		}
	}
	return out
}

// Each state that three nexuses with two keys reach, and each service in it; also behind a loss of power.
func TestEverySmallTableAsTheModel(t *testing.T) {
	outs := services([]byte{0, 1, 3, 5, 6, 7, 8, 9}, []uint64{0, keyA, keyB}, []uint64{0, keyA, keyB, keyC})
	seen := map[string]int{}
	work := []both{{New(), newModel()}}
	for len(work) > 0 {
		b := work[0]
		work = work[1:]
		b.same(t)
		for _, nexus := range []int{0, 3, 7} {
			for _, o := range outs {
				if o.Action == keyC && o.Service != Preempt && o.Service != Abort {
					continue
				}
				next := b.copied()
				next.step(t, nexus, o)
				name := next.name()
				if seen[name] == 0 {
					work = append(work, next)
				}
				seen[name]++
			}
		}
	}
	// Without a reservation 27 choices of keys; each type that one holds adds 27 of three nexuses less those in which it isn't registered; each that all hold 26: each of them lasting or not.
	if wanted := 2 * (27 + 4*3*18 + 2*26); len(seen) != wanted {
		t.Errorf("%d states; want %d", len(seen), wanted)
	}
}

func TestAnyServicesAsTheModel(t *testing.T) {
	for seed := range int64(200) {
		r := rand.New(rand.NewSource(seed))
		b := both{New(), newModel()}
		for range 300 {
			nexus := r.Intn(10) - 1
			o := Out{Service: byte(r.Intn(8)), Type: byte(r.Intn(10)), Action: uint64(r.Intn(4)), APTPL: r.Intn(2) == 0}
			o.Key = b.m.keys[nexus]
			if r.Intn(8) == 0 {
				o.Key = uint64(r.Intn(4))
			}
			if o.Service == Clear && r.Intn(4) != 0 {
				o.Service = Ignore
			}
			again := b.copied()
			b.step(t, nexus, o)
			again.step(t, nexus, o)
			b.same(t)
			if r.Intn(20) == 0 && b.m.lasts {
				b.x = wantLoad(t, b.x.Save())
				b.m.gen = 0
			}
		}
	}
}
