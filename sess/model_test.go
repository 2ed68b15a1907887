package sess

import (
	"bytes"
	"encoding/binary"
	"maps"
	"math/rand"
	"reflect"
	"regexp"
	"slices"
	"strings"
	"testing"

	"pallet/api"
	"pallet/login"
)

// model is a session told anew by the chapter's words, without the layers below it.
type model struct {
	params login.Params
	names  []string
	next   uint32
	stat   uint32
	asked  uint32
	held   map[uint32]api.PDU
	open   map[uint32]*modelCommand
	isOver bool
	last   api.PDU // that came
	out    []api.PDU
	tasks  []Task
}

// modelCommand is a command that has no answer; what lacks of what was asked for is 0 where it doesn't wait.
type modelCommand struct {
	task    Task
	reads   bool
	askTag  uint32
	lacks   int
	askedIt uint32
}

func newModel(p login.Params, targets []string, first uint32) *model {
	return &model{params: p, names: slices.Clone(targets), next: first, stat: 1,
		held: map[uint32]api.PDU{}, open: map[uint32]*modelCommand{}}
}

// tell puts the numbers into a PDU that goes out.
func (m *model) tell(p api.PDU, counts bool) {
	for at, word := range []uint32{m.stat, m.next, m.next + 15} {
		p.Words[1+at] = word
	}
	m.out = append(m.out, p)
	if counts {
		m.stat++
	}
}

func (m *model) reject(p api.PDU, why byte) {
	var head bytes.Buffer
	n := len(p.Data)
	binary.Write(&head, binary.BigEndian, struct {
		A   [9]byte
		LUN byte
		B   [6]byte
		Tag uint32
		W   [7]uint32
	}{A: [9]byte{p.Op, p.Flags, p.Res, p.Stat, 0, byte(n / 65536), byte(n / 256), byte(n)}, LUN: p.LUN, Tag: p.Tag, W: p.Words})
	m.tell(api.PDU{Op: 0x3f, Flags: 0x80, Res: why, Tag: 0xffffffff, Data: head.Bytes()}, true)
}

func (m *model) in(p api.PDU) ([]api.PDU, []Task) {
	m.out, m.tasks = nil, nil
	p.Data = slices.Clone(p.Data)
	m.last = p
	if !m.isOver {
		m.come(p)
	}
	return m.out, m.tasks
}

func (m *model) come(p api.PDU) {
	if p.Op%0x40 == 5 {
		m.data(p)
		return
	}
	if p.Op >= 0x80 || !slices.Contains([]byte{0, 1, 2, 4, 6}, p.Op%0x40) {
		m.reject(p, 5)
		return
	}
	if p.Op >= 0x40 {
		m.done(p)
		return
	}
	number := p.Words[1]
	if _, there := m.held[number]; there || (int64(number)-int64(m.next)+1<<32)%(1<<32) > 15 {
		return
	}
	m.held[number] = p
	for !m.isOver {
		p, there := m.held[m.next]
		if !there {
			return
		}
		delete(m.held, m.next)
		m.next++
		m.done(p)
	}
}

func (m *model) done(p api.PDU) {
	switch p.Op % 0x40 {
	case 0:
		if p.Tag+1 != 0 {
			m.tell(api.PDU{Op: 0x20, Flags: 0x80, LUN: p.LUN, Tag: p.Tag, Data: p.Data, Words: [7]uint32{1<<32 - 1}}, true)
		}
	case 1:
		m.command(p)
	case 2:
		m.tasks = append(m.tasks, Task{Tag: p.Tag, LUN: p.LUN, Func: p.Flags % 0x80, Ref: p.Words[0]})
	case 4:
		m.tell(api.PDU{Op: 0x24, Flags: 0x80, Tag: p.Tag, Data: []byte(m.keys(string(p.Data)))}, true)
	case 6:
		m.tell(api.PDU{Op: 0x26, Flags: 0x80, Tag: p.Tag}, true)
		m.isOver = true
	}
}

var modelPair = regexp.MustCompile(`^([A-Za-z0-9.+_-]{1,63})=([ -~]{0,255})$`)

func (m *model) keys(all string) string {
	seen := map[string]bool{}
	answer := ""
	parts := strings.SplitAfter(all, "\x00")
	for _, part := range parts[:len(parts)-1] {
		found := modelPair.FindStringSubmatch(strings.TrimSuffix(part, "\x00"))
		if found == nil || seen[found[1]] {
			return ""
		}
		seen[found[1]] = true
		answer += m.key(found[1], found[2])
	}
	if parts[len(parts)-1] != "" || len(all) > 4096 || len(seen) > 64 {
		return ""
	}
	return answer
}

func (m *model) key(key, value string) string {
	if key != "SendTargets" {
		return key + "=NotUnderstood\x00"
	}
	answer := ""
	if m.params.Discovery && value == "All" {
		for _, name := range m.names {
			answer += "TargetName=" + name + "\x00"
		}
		return answer
	}
	if !m.params.Discovery && value == "" {
		for _, name := range m.names {
			if name == m.params.Target {
				answer += "TargetName=" + name + "\x00"
			}
		}
		return answer
	}
	return "SendTargets=Reject\x00"
}

func (m *model) command(p api.PDU) {
	want, n := int(p.Words[0]), len(p.Data)
	writes := p.Flags&0x20 == 0x20
	switch {
	case m.open[p.Tag] != nil:
		m.reject(p, 9)
		return
	case m.params.Discovery:
		m.reject(p, 4)
		return
	case n > 0 && (!writes || !m.params.Immediate || n > m.params.First || n > want), writes && want > 1048576:
		m.reject(p, 9)
		return
	}
	attrs := map[byte]api.Attr{2: api.Ordered, 3: api.Head, 4: api.ForACA}
	t := Task{Tag: p.Tag, LUN: p.LUN, Attr: attrs[p.Flags%8], Out: p.Data, Want: want}
	for _, word := range p.Words[3:] {
		t.CDB = binary.BigEndian.AppendUint32(t.CDB, word)
	}
	m.open[p.Tag] = &modelCommand{task: t, reads: p.Flags&0x40 == 0x40}
	if writes && n < want {
		m.ask(m.open[p.Tag])
	} else {
		m.tasks = append(m.tasks, t)
	}
}

func (m *model) ask(c *modelCommand) {
	m.asked++
	c.askTag = m.asked
	c.lacks = c.task.Want - len(c.task.Out)
	if c.lacks > m.params.Burst {
		c.lacks = max(m.params.Burst, 1)
	}
	m.tell(api.PDU{Op: 0x31, Flags: 0x80, LUN: c.task.LUN, Tag: c.task.Tag,
		Words: [7]uint32{m.asked, 0, 0, 0, c.askedIt, uint32(len(c.task.Out)), uint32(c.lacks)}}, false)
	c.askedIt++
}

func (m *model) data(p api.PDU) {
	c := m.open[p.Tag]
	if c == nil || c.lacks == 0 || c.askTag != p.Words[0] || int(p.Words[5]) != len(c.task.Out) || len(p.Data) > c.lacks {
		m.reject(p, 9)
		return
	}
	c.task.Out = slices.Concat(c.task.Out, p.Data)
	c.lacks -= len(p.Data)
	if c.lacks > 0 {
		if p.Flags >= 0x80 {
			m.reject(p, 9)
		}
		return
	}
	if len(c.task.Out) < c.task.Want {
		m.ask(c)
		return
	}
	m.tasks = append(m.tasks, c.task)
}

func (m *model) end(tag uint32, r api.Result, described bool) []api.PDU {
	m.out = nil
	c := m.open[tag]
	if m.isOver || c == nil {
		return nil
	}
	delete(m.open, tag)
	var all []byte
	if c.reads && r.Status == 0 {
		all = r.Data
	}
	last := api.PDU{Op: 0x21, Flags: 0x80, Stat: byte(r.Status), Tag: tag}
	if len(all) > c.task.Want {
		last.Flags, last.Words[6] = 0x84, uint32(len(all)-c.task.Want)
		all = all[:c.task.Want]
	} else if c.reads && len(all) < c.task.Want {
		last.Flags, last.Words[6] = 0x82, uint32(c.task.Want-len(all))
	}
	m.pieces(c, all)
	last.Words[4] = uint32(len(m.out))
	if r.Status == 2 {
		last.Data = modelSense(r.Sense, described)
	}
	m.tell(last, true)
	return m.out
}

func (m *model) pieces(c *modelCommand, all []byte) {
	for at := 0; at < len(all); {
		size := min(max(1, m.params.Segment), len(all)-at)
		p := api.PDU{Op: 0x25, LUN: c.task.LUN, Tag: c.task.Tag, Data: all[at : at+size]}
		p.Words = [7]uint32{1<<32 - 1, 0, m.next, m.next + 15, uint32(len(m.out)), uint32(at)}
		at += size
		if at == len(all) {
			p.Flags = 0x80
		}
		m.out = append(m.out, p)
	}
}

// modelSense tells the bytes of a sense behind their count; the count 0 alone of one that can't be told.
func modelSense(s api.Sense, described bool) []byte {
	inForm := s.Key <= 15 && (s.HasInfo || s.Info == 0)
	if s.HasField {
		inForm = inForm && s.Field >= 0 && s.Field <= 65535 && s.Bit >= -1 && s.Bit <= 7
	} else {
		inForm = inForm && s.Field == 0 && s.Bit == 0 && !s.InCmd
	}
	if !inForm {
		return []byte{0, 0}
	}
	field := [3]byte{}
	if s.HasField {
		field = [3]byte{0x80, byte(s.Field / 256), byte(s.Field)}
		if s.InCmd {
			field[0] += 0x40
		}
		if s.Bit >= 0 {
			field[0] += 8 + byte(s.Bit)
		}
	}
	out := []byte{0x70, 0, s.Key}
	if s.HasInfo {
		out[0] = 0xf0
	}
	out = binary.BigEndian.AppendUint32(out, uint32(s.Info))
	out = append(out, 0x0a, 0, 0, 0, 0, byte(s.Code/256), byte(s.Code), 0, field[0], field[1], field[2])
	if described || s.Info>>32 != 0 {
		var parts []byte
		if s.HasInfo {
			parts = binary.BigEndian.AppendUint64([]byte{0, 0x0a, 0x80, 0}, s.Info)
		}
		if s.HasField {
			parts = append(parts, 2, 6, 0, 0, field[0], field[1], field[2], 0)
		}
		out = append([]byte{0x72, s.Key, byte(s.Code / 256), byte(s.Code), 0, 0, 0, byte(len(parts))}, parts...)
	}
	return append([]byte{0, byte(len(out))}, out...)
}

func (m *model) told(tag uint32, code byte) []api.PDU {
	m.out = nil
	if !m.isOver {
		m.tell(api.PDU{Op: 0x22, Flags: 0x80, Res: code, Tag: tag}, true)
	}
	return m.out
}

func (m *model) forget(tag uint32) bool {
	was := m.open[tag] != nil
	delete(m.open, tag)
	return was
}

// alike holds PDUs against each other; no data and nil data are the same.
func alike(a, b []api.PDU) bool {
	return slices.EqualFunc(a, b, func(x, y api.PDU) bool {
		same := bytes.Equal(x.Data, y.Data)
		x.Data, y.Data = nil, nil
		return same && reflect.DeepEqual(x, y)
	})
}

// alikeTasks holds tasks against each other, likewise.
func alikeTasks(a, b []Task) bool {
	return slices.EqualFunc(a, b, func(x, y Task) bool {
		same := bytes.Equal(x.Out, y.Out) && bytes.Equal(x.CDB, y.CDB)
		x.Out, y.Out, x.CDB, y.CDB = nil, nil, nil, nil
		return same && reflect.DeepEqual(x, y)
	})
}

// spoil writes over bytes and their spare room.
func spoil(p []byte) {
	p = p[:cap(p)]
	for i := range p {
		p[i]++
	}
}

// filled tells n bytes that differ from place to place and from seed to seed.
func filled(n int, seed int64) []byte {
	p := make([]byte, n)
	rand.New(rand.NewSource(seed)).Read(p)
	return p
}

// pick tells one of several things.
func pick[T any](r *rand.Rand, things ...T) T {
	return things[r.Intn(len(things))]
}

func anyParams(r *rand.Rand) login.Params {
	return login.Params{Target: pick(r, "t", "u", ""), Discovery: r.Intn(8) == 0, Immediate: r.Intn(5) > 0,
		Segment: pick(r, -1, 0, 1, 3, 8, 64, 8192), Burst: pick(r, -9, 0, 1, 4, 7, 16, 65536), First: pick(r, -1, 0, 8, 65536)}
}

func anyText(r *rand.Rand) []byte {
	var p []byte
	for range r.Intn(4) {
		key := pick(r, "SendTargets", "SendTargets", "SendTarget", "X.-+_9", "a", "InitiatorName", "sendtargets")
		p = append(p, key+"="+pick(r, "", "", "All", "All", "all", "t", "=")+pick(r, "\x00", "\x00", "\x00", "\x00", "\x00", "\x00", "", "\x01")...)
	}
	return p
}

// anyPDU tells a PDU that may go far: numbers and tags are near those that the model has.
func (m *model) anyPDU(r *rand.Rand) api.PDU {
	p := api.PDU{Op: pick[byte](r, 0, 1, 1, 1, 1, 1, 2, 4), Flags: byte(r.Uint32()), Res: byte(r.Uint32()),
		Stat: byte(r.Uint32()), LUN: byte(r.Intn(4)), Tag: pick[uint32](r, 1, 2, 3, 4, 5, 1<<32-1), Data: filled(pick(r, 0, 0, 0, 4, 8, 9), r.Int63())}
	for i := range p.Words {
		p.Words[i] = r.Uint32()
	}
	if m.open[p.Tag] != nil && r.Intn(4) > 0 {
		p.Tag = 6 + uint32(r.Intn(1000))
	}
	p.Words[0] = pick[uint32](r, 0, 3, 8, 9, 20, 40, 0, 3, 8, 9, 20, 40, 1<<20, 1<<20+1, 1<<32-1)
	p.Words[1] = m.next + pick[uint32](r, 0, 0, 0, 0, 0, 0, 1, 1, 2, 3, 15, 16, 1<<32-1, r.Uint32())
	switch r.Intn(20) {
	case 0:
		p.Op = byte(r.Uint32())
	case 1, 2, 3:
		p.Op |= 0x40
	case 4:
		p.Op |= 0x80
	case 5:
		p.Op = pick[byte](r, 6, 0x46, 1, 1, 1, 1, 1)
	}
	if p.Op&0x3f == 4 {
		p.Data = anyText(r)
	}
	return p
}

// anyData tells a DataOut that mostly fits to a write that waits.
func (m *model) anyData(r *rand.Rand) api.PDU {
	p := api.PDU{Op: pick[byte](r, 5, 5, 5, 5, 0x45, 0x85, 0xc5), Flags: byte(r.Uint32()), Tag: uint32(r.Intn(6))}
	var lacks int
	for _, tag := range slices.Sorted(maps.Keys(m.open)) {
		if c := m.open[tag]; c.lacks > 0 {
			p.Tag, p.Words[0], p.Words[5], lacks = tag, c.askTag, uint32(len(c.task.Out)), c.lacks
			if r.Intn(2) == 0 {
				break
			}
		}
	}
	p.Data = filled(max(0, min(pick(r, lacks, lacks, lacks, lacks-1, lacks+1, 0, 2), 100)), r.Int63())
	p.Words[pick(r, 1, 2, 3, 4, 6)] = r.Uint32()
	if r.Intn(12) == 0 {
		p.Words[pick(r, 0, 5)] += pick[uint32](r, 1, 1<<32-1)
	}
	return p
}

// hasWrites: a write waits for data.
func (m *model) hasWrites() bool {
	for _, c := range m.open {
		if c.lacks > 0 {
			return true
		}
	}
	return false
}

func anyResult(r *rand.Rand) api.Result {
	return api.Result{
		Status: pick(r, api.Good, api.Good, api.Good, api.Check, api.Check, api.Conflict, api.SetFull, api.ACA, api.Aborted, api.Status(r.Uint32())),
		Sense:  anySense(r),
		Data:   filled(pick(r, 0, 3, 8, 9, 20, 21, 40), r.Int63()),
	}
}

// anySense tells a sense that mostly is in form.
func anySense(r *rand.Rand) api.Sense {
	s := api.Sense{Key: byte(r.Intn(16)), Code: uint16(r.Uint32()), HasInfo: r.Intn(2) == 0, HasField: r.Intn(2) == 0}
	if s.HasInfo || r.Intn(20) == 0 {
		s.Info = pick[uint64](r, 0, 7, 1<<32-1, 1<<32, 1<<64-1)
	}
	if s.HasField || r.Intn(20) == 0 {
		s.Field, s.Bit, s.InCmd = pick(r, 0, 2, 65535), pick(r, 0, -1, 7), r.Intn(2) == 0
	}
	switch r.Intn(20) {
	case 0:
		s.Key = 16
	case 1:
		s.Field = pick(r, -1, 65536)
	case 2:
		s.Bit = pick(r, -2, 8)
	}
	return s
}

// anyTag tells a tag, mostly one that is open or waits, if there is one.
func (m *model) anyTag(r *rand.Rand) uint32 {
	if len(m.open) == 0 || r.Intn(5) == 0 {
		return pick[uint32](r, 1, 2, 3, 4, 5, 1<<32-1)
	}
	return pick(r, slices.Sorted(maps.Keys(m.open))...)
}

// seen counts what came in a run beside the model, by names.
type seen map[string]int

func (n seen) note(out []api.PDU, tasks []Task, p api.PDU) {
	for _, one := range out {
		n[string(rune('A'+one.Op))+" out"]++
		if one.Op == 0x3f {
			n["refused "+string(rune('0'+one.Res))]++
		}
		if one.Op == 0x31 && one.Words[4] > 0 {
			n["asked again"]++
		}
	}
	if len(tasks) > 1 {
		n["several tasks"]++
	}
	if len(tasks) > 0 && p.Op%0x40 == 5 {
		n["all data"]++
	}
}

func TestAsModel(t *testing.T) {
	n := seen{}
	for seed := range int64(3000) {
		r := rand.New(rand.NewSource(seed))
		params := anyParams(r)
		targets := [][]string{nil, {"t"}, {"u", "t"}, {"a", "b", "a"}, {"t", "u", "t"}}[r.Intn(5)]
		first := pick[uint32](r, 0, 1, 5, 1<<32-1, 1<<32-3, 1<<31-2, r.Uint32())
		s, m := New(params, targets, first), newModel(params, targets, first)
		for range 60 {
			runBoth(t, r, s, m, n)
			if s.Over() != m.isOver || s.Waits() != len(m.open) || s.Next() != m.next {
				t.Fatalf("seed %d: over %v, %d wait, next %d; want %v, %d, %d", seed, s.Over(), s.Waits(), s.Next(), m.isOver, len(m.open), m.next)
			}
			if t.Failed() {
				t.Fatalf("seed %d, %v", seed, params)
			}
		}
	}
	for _, what := range []string{"refused 4", "refused 5", "refused 9", "asked again", "several tasks", "all data", "pieces",
		"too many", "too few", "described", "fixed", "no sense", "forgotten", "ended over"} {
		if n[what] < 200 {
			t.Errorf("%s came %d times", what, n[what])
		}
	}
	for _, op := range []byte{0x20, 0x21, 0x22, 0x24, 0x25, 0x26, 0x31, 0x3f} {
		if n[string(rune('A'+op))+" out"] < 200 {
			t.Errorf("%02x went out %d times", op, n[string(rune('A'+op))+" out"])
		}
	}
}

// runBoth does one thing to a session and to the model.
func runBoth(t *testing.T, r *rand.Rand, s *Session, m *model, n seen) {
	t.Helper()
	tag := m.anyTag(r)
	switch r.Intn(20) {
	case 0, 1, 2, 3:
		result, described := anyResult(r), r.Intn(2) == 0
		kept := slices.Clone(result.Data)
		if m.isOver && m.open[tag] != nil {
			n["ended over"]++
		}
		wanted := m.end(tag, result, described)
		got := s.End(tag, result, described)
		if !alike(got, wanted) || !bytes.Equal(kept, result.Data) {
			t.Errorf("End(%d, %v, %v) = %x; want %x", tag, result, described, got, wanted)
		}
		n.noteEnd(wanted, result)
		n.note(got, nil, api.PDU{})
		spoilAll(got, nil, result.Data)
	case 4:
		wanted, got := m.told(tag, 3), s.Told(tag, 3)
		if !alike(got, wanted) {
			t.Errorf("Told(%d) = %x; want %x", tag, got, wanted)
		}
		n.note(got, nil, api.PDU{})
	case 5:
		wanted := m.forget(tag)
		if got := s.Forget(tag); got != wanted {
			t.Errorf("Forget(%d) = %v; want %v", tag, got, wanted)
		} else if got {
			n["forgotten"]++
		}
	default:
		p := m.anyPDU(r)
		if m.hasWrites() && r.Intn(2) == 0 || r.Intn(20) == 0 {
			p = m.anyData(r)
		}
		if r.Intn(20) == 0 {
			p = m.last
			p.Data = slices.Clone(p.Data)
		}
		sendBoth(t, s, m, n, p)
	}
}

func (n seen) noteEnd(out []api.PDU, r api.Result) {
	if len(out) > 2 {
		n["pieces"]++
	}
	if len(out) == 0 {
		return
	}
	last := out[len(out)-1]
	n[map[byte]string{0x80: "as many", 0x82: "too few", 0x84: "too many"}[last.Flags]]++
	if r.Status == api.Check {
		switch {
		case len(last.Data) == 2:
			n["no sense"]++
		case last.Data[2] == 0x72:
			n["described"]++
		default:
			n["fixed"]++
		}
	}
}

func sendBoth(t *testing.T, s *Session, m *model, n seen, p api.PDU) {
	t.Helper()
	wanted, wantedTasks := m.in(p)
	kept := slices.Clone(p.Data)
	got, tasks := s.In(p)
	if !alike(got, wanted) || !alikeTasks(tasks, wantedTasks) {
		t.Errorf("In(%x) = %x, %v; want %x, %v", p, got, tasks, wanted, wantedTasks)
	}
	if !bytes.Equal(kept, p.Data) {
		t.Errorf("In(%x) has changed its data", p)
	}
	n.note(got, tasks, p)
	spoilAll(got, tasks, p.Data)
}

// spoilAll writes over what was handed in and what was answered, and over the lists' spare room.
func spoilAll(out []api.PDU, tasks []Task, in []byte) {
	spoil(in)
	for _, p := range out {
		spoil(p.Data)
	}
	for _, task := range tasks {
		spoil(task.CDB)
		spoil(task.Out)
	}
	clear(out[:cap(out)])
	clear(tasks[:cap(tasks)])
}
