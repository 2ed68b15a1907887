package sess

import (
	"slices"

	"pallet/api"
	"pallet/pdu"
)

// Bits of a command's Flags.
const (
	reading   byte = 0x40
	writing   byte = 0x20
	attribute byte = 0x07
)

// mostWritten is how many bytes a command may write.
const mostWritten = 1 << 20

// command is what its answer hangs on.
type command struct {
	tag   uint32
	lun   byte
	reads bool
	want  int
}

// write is a task whose data have not come yet.
type write struct {
	task  Task // with the data that have come
	tag   uint32
	end   int // where what was asked for ends
	times int // how often it was asked for
}

// begin takes a command: it is refused, or open, and its task is to be done now or when its data have come.
func (s *Session) begin(p api.PDU) ([]api.PDU, []Task) {
	if why, ok := s.allows(p); !ok {
		return s.refuse(p, why), nil
	}
	t := Task{
		Tag:  p.Tag,
		LUN:  p.LUN,
		Attr: attributeOf(p.Flags),
		CDB:  commandBytes(p.Words[3:]),
		Out:  slices.Clone(p.Data),
		Want: int(p.Words[0]),
	}
	s.open = append(s.open, command{tag: t.Tag, lun: t.LUN, reads: p.Flags&reading != 0, want: t.Want})
	if p.Flags&writing == 0 || len(t.Out) == t.Want {
		return nil, []Task{t}
	}
	w, asks := s.askFor(write{task: t})
	s.waits = append(s.waits, w)
	return asks, nil
}

// allows: a command may be taken; false: why it is refused.
func (s *Session) allows(p api.PDU) (byte, bool) {
	switch {
	case s.findOpen(p.Tag) >= 0:
		return notValid, false
	case s.params.Discovery:
		return notNow, false
	case len(p.Data) > 0 && !s.allowsData(p):
		return notValid, false
	case p.Flags&writing != 0 && p.Words[0] > mostWritten:
		return notValid, false
	}
	return 0, true
}

// allowsData: the data that a command has may come with it.
func (s *Session) allowsData(p api.PDU) bool {
	size := len(p.Data)
	return p.Flags&writing != 0 && s.params.Immediate && size <= s.params.First && size <= int(p.Words[0])
}

// findOpen tells the place of the open command with a tag; -1: there is none.
func (s *Session) findOpen(tag uint32) int {
	return slices.IndexFunc(s.open, func(c command) bool { return c.tag == tag })
}

func attributeOf(flags byte) api.Attr {
	switch flags & attribute {
	case 2:
		return api.Ordered
	case 3:
		return api.Head
	case 4:
		return api.ForACA
	}
	return api.Simple
}

func commandBytes(words []uint32) []byte {
	var p []byte
	for _, w := range words {
		p = append(p, byte(w>>24), byte(w>>16), byte(w>>8), byte(w))
	}
	return p
}

// askFor asks for data that a write lacks, and tells the write that it is then.
func (s *Session) askFor(w write) (write, []api.PDU) {
	begin := len(w.task.Out)
	size := min(max(s.params.Burst, 1), w.task.Want-begin)
	s.asked++
	r2t := api.PDU{Op: pdu.R2T, Flags: final, LUN: w.task.LUN, Tag: w.task.Tag}
	r2t.Words[0] = s.asked
	r2t.Words[4] = uint32(w.times)
	r2t.Words[5] = uint32(begin)
	r2t.Words[6] = uint32(size)
	w.tag = s.asked
	w.end = begin + size
	w.times++
	return w, []api.PDU{s.numbered(r2t)}
}

// takeData takes data for a write that waits; its task is to be done, if they are the last ones.
func (s *Session) takeData(p api.PDU) ([]api.PDU, []Task) {
	at := slices.IndexFunc(s.waits, func(w write) bool { return w.task.Tag == p.Tag && w.tag == p.Words[0] })
	if at < 0 || !s.waits[at].fits(p) {
		return s.refuse(p, notValid), nil
	}
	w := s.waits[at]
	w.task.Out = append(w.task.Out, p.Data...)
	came := len(w.task.Out)
	if came == w.task.Want {
		_, s.waits = take(s.waits, at)
		return nil, []Task{w.task}
	}
	var out []api.PDU
	if came == w.end {
		w, out = s.askFor(w)
	} else if p.Flags&final != 0 {
		out = s.refuse(p, notValid)
	}
	s.waits[at] = w
	return out, nil
}

// fits: data begin where the last ones ended, and are no more than was asked for.
func (w write) fits(p api.PDU) bool {
	came := len(w.task.Out)
	return p.Words[5] == uint32(came) && len(p.Data) <= w.end-came
}
