package target

import (
	"slices"

	"pallet/api"
	"pallet/login"
	"pallet/pdu"
	"pallet/sess"
	"pallet/text"
)

// loginOp is the one operation that a login is made of: a LoginReq that is done at once.
const loginOp = pdu.LoginReq | 0x40

// Flags of a LoginReq and of a LoginResp.
const (
	transit    byte = 0x80
	stageShift      = 2
	stageMask  byte = 0x03
)

// window is how many commands may come, from the next one on.
const window = 16

// stranger is the answer to an initiator that has no nexus.
func stranger() login.Answer {
	return login.Answer{Class: 2, Detail: 2}
}

// logIn takes a PDU of a connection that has no session yet.
func (t *Target) logIn(n int, p api.PDU) {
	c := t.conns[n]
	keys, e := text.Parse(p.Data)
	if p.Op != loginOp || e != api.OK {
		t.leave(n)
		return
	}
	if c.login == nil {
		t.beginLogin(c, p.Words[1])
	}
	answer, e := c.login.Step(request(p.Flags, keys))
	if e != api.OK {
		t.leave(n)
		return
	}
	nexus := slices.Index(t.config.Initiators, c.login.Params().Initiator)
	if answer.Class == 0 && nexus < 0 {
		answer = stranger()
	}
	c.send(response(p.Tag, c.first, answer))
	switch {
	case answer.Class != 0:
		t.leave(n)
	case c.login.Done():
		t.open(c, nexus)
	}
}

// beginLogin gives a connection a login with a draw of its own, so that an answer to an earlier challenge proves nothing.
func (t *Target) beginLogin(c *connection, first uint32) {
	t.draw++
	c.login = login.New(t.config.Login, t.draw, []byte{t.draw, t.draw ^ 0x5a, 0xc3})
	c.first = first
}

// request tells the step of a login that a PDU asks for.
func request(flags byte, keys []api.Pair) login.Request {
	return login.Request{
		Stage:   flags >> stageShift & stageMask,
		Next:    flags & stageMask,
		Transit: flags&transit != 0,
		Keys:    keys,
	}
}

// response tells the PDU that answers a step.
func response(tag, first uint32, a login.Answer) api.PDU {
	p := api.PDU{Op: pdu.LoginResp, Flags: a.Stage << stageShift, Tag: tag}
	if a.Transit {
		p.Flags |= transit | a.Next
	}
	p.Words[2], p.Words[3] = first, first+window-1
	p.Words[4] = uint32(a.Class)<<24 | uint32(a.Detail)<<16
	p.Data, _ = text.Write(a.Keys)
	return p
}

// open gives a connection whose login is done its session. A nexus has one connection: who comes anew takes the earlier one's place.
func (t *Target) open(c *connection, nexus int) {
	params := c.login.Params()
	if !params.Discovery {
		t.leaveAll(nexus)
		c.nexus = nexus
	}
	c.session = sess.New(params, t.config.Login.Targets, c.first)
	c.reader.Digests(params.Headers, params.Data)
}

// leaveAll has each connection of a nexus gone.
func (t *Target) leaveAll(nexus int) {
	for n, c := range t.conns {
		if c != nil && c.nexus == nexus {
			t.leave(n)
		}
	}
}
