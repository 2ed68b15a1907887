package target

import (
	"slices"

	"pallet/api"
	"pallet/login"
	"pallet/pdu"
	"pallet/sess"
)

// connection is one that is there.
type connection struct {
	reader  *pdu.Reader
	login   *login.Login  // nil: none has begun
	first   uint32        // the number of its first command, as the login said
	session *sess.Session // nil: the login isn't done
	nexus   int
	out     []byte // all that went out
}

func newConnection() *connection {
	return &connection{reader: pdu.New(), nexus: none}
}

func isConnection(n int) bool {
	return isAmong(n, api.MaxNexus)
}

// connection tells a connection by its number; nil: it isn't there.
func (t *Target) connection(n int) *connection {
	if t == nil || !isConnection(n) {
		return nil
	}
	return t.conns[n]
}

// leave: a connection is there no more, and with it goes all that its nexus had begun.
func (t *Target) leave(n int) {
	nexus := t.conns[n].nexus
	t.conns[n] = nil
	if nexus == none {
		return
	}
	for _, set := range t.sets {
		set.AbortAll(nexus)
	}
	t.jobs = slices.DeleteFunc(t.jobs, func(j job) bool { return j.nexus == nexus })
}

// take takes bytes that come over a connection, and does each PDU that is whole by them.
func (t *Target) take(n int, data []byte) {
	t.conns[n].reader.Feed(data)
	// What a PDU asks for may be the connection's end.
	for t.conns[n] != nil {
		p, e := t.conns[n].reader.Next()
		switch {
		case e == api.ErrNone:
			return
		case e != api.OK:
			t.leave(n)
		case t.conns[n].session == nil:
			t.logIn(n, p)
		default:
			t.serve(n, p)
		}
	}
}

// serve does a PDU of a session.
func (t *Target) serve(n int, p api.PDU) {
	c := t.conns[n]
	out, tasks := c.session.In(p)
	c.send(out...)
	for _, one := range tasks {
		t.begin(n, one)
	}
	if c.session.Over() {
		t.leave(n)
	}
}

// send has PDUs go out, in order; one whose data are too long for a PDU has no bytes that could.
func (c *connection) send(list ...api.PDU) {
	headers, data := c.sums()
	for _, p := range list {
		b, _ := pdu.Encode(p, headers, data)
		c.out = append(c.out, b...)
	}
}

// sums tells which sums PDUs have; as long as the login isn't done they have none, whatever it has come to.
func (c *connection) sums() (headers, data bool) {
	if c.session == nil {
		return false, false
	}
	p := c.login.Params()
	return p.Headers, p.Data
}
