package sess

import (
	"slices"

	"pallet/api"
	"pallet/pdu"
	"pallet/sense"
)

// Bits of a response's Flags: fewer or more data than were wanted.
const (
	tooFew  byte = 0x02
	tooMany byte = 0x04
)

// End tells the answer to a command: its data and its response.
func (s *Session) End(tag uint32, r api.Result, described bool) []api.PDU {
	if s == nil || s.over {
		return nil
	}
	c, found := s.settle(tag)
	if !found {
		return nil
	}
	var data []byte
	if c.reads && r.Status == api.Good {
		data = r.Data
	}
	out := s.pieces(c, data[:min(len(data), c.want)])
	last := response(c, r.Status, len(data))
	last.Words[4] = uint32(len(out))
	if r.Status == api.Check {
		last.Data = senseData(r.Sense, described)
	}
	return append(out, s.counted(last))
}

// settle: a command is open no more, nor does it wait for data; it tells which one it was, and whether there was one.
func (s *Session) settle(tag uint32) (command, bool) {
	at := s.findOpen(tag)
	if at < 0 {
		return command{}, false
	}
	if waits := slices.IndexFunc(s.waits, func(w write) bool { return w.task.Tag == tag }); waits >= 0 {
		_, s.waits = take(s.waits, waits)
	}
	var c command
	c, s.open = take(s.open, at)
	return c, true
}

// pieces tells the data of a command, each piece with a place of its own.
func (s *Session) pieces(c command, data []byte) []api.PDU {
	var out []api.PDU
	size := max(s.params.Segment, 1)
	for begin := 0; begin < len(data); begin += size {
		p := s.numbered(api.PDU{Op: pdu.DataIn, LUN: c.lun, Tag: c.tag})
		p.Words[0] = none
		p.Words[1] = 0
		p.Words[4] = uint32(len(out))
		p.Words[5] = uint32(begin)
		p.Data = slices.Clone(data[begin:min(begin+size, len(data))])
		out = append(out, p)
	}
	if len(out) > 0 {
		out[len(out)-1].Flags = final
	}
	return out
}

// response tells how a command ended, and by how much its data differ from what was wanted.
func response(c command, status api.Status, size int) api.PDU {
	p := api.PDU{Op: pdu.Response, Flags: final, Stat: byte(status), Tag: c.tag}
	switch {
	case size > c.want:
		p.Flags |= tooMany
		p.Words[6] = uint32(size - c.want)
	case c.reads && size < c.want:
		p.Flags |= tooFew
		p.Words[6] = uint32(c.want - size)
	}
	return p
}

// senseData tells a sense behind its length; one that can't be told at all has the length 0.
func senseData(why api.Sense, described bool) []byte {
	p, e := sense.Fixed(why)
	if described || e != api.OK {
		p, _ = sense.Described(why)
	}
	return append([]byte{byte(len(p) >> 8), byte(len(p))}, p...)
}

// Told tells the answer to a function on tasks.
func (s *Session) Told(tag uint32, code byte) []api.PDU {
	if s == nil || s.over {
		return nil
	}
	return s.answer(api.PDU{Op: pdu.TaskResp, Flags: final, Res: code, Tag: tag})
}

// Forget has a command get no answer any more, and tells whether it was one.
func (s *Session) Forget(tag uint32) bool {
	if s == nil {
		return false
	}
	_, found := s.settle(tag)
	return found
}
