package unit

import (
	"math/bits"

	"pallet/api"
	"pallet/pr"
)

// The services of PRIn.
const (
	readKeys         = 0
	readReservation  = 1
	readCapabilities = 2
	readAll          = 3
)

// capabilities tells that tables may last, and which types of reservations there are.
const capabilities = "\x00\x08\x01\x80\xea\x01\x00\x00"

const (
	keySize         = 8
	reservationSize = 16
	typeAt          = 13 // in a reservation
)

// reserveIn tells all that a service of PRIn is about.
func (u *Unit) reserveIn(service byte) []byte {
	if service == readCapabilities {
		return []byte(capabilities)
	}
	var body []byte
	switch service {
	case readKeys:
		body = u.keys()
	case readReservation:
		body = u.reservation()
	case readAll:
		body = u.registrations()
	}
	head := append(number(uint64(u.table.Gen()), 4), number(uint64(len(body)), 4)...)
	return append(head, body...)
}

func (u *Unit) keys() []byte {
	var p []byte
	for _, r := range u.table.Regs() {
		p = append(p, number(r.Key, keySize)...)
	}
	return p
}

// reservation tells the type and the holder's key; nobody's, if all hold it; no bytes, if there is none.
func (u *Unit) reservation() []byte {
	kind, holder := u.table.Reserved()
	if kind == api.NoType {
		return nil
	}
	p := make([]byte, reservationSize)
	for _, r := range u.table.Regs() {
		if r.Nexus == holder {
			copy(p, number(r.Key, keySize))
		}
	}
	p[typeAt] = kind
	return p
}

// registrations tells each registration, and whether it holds the reservation.
func (u *Unit) registrations() []byte {
	kind, _ := u.table.Reserved()
	var p []byte
	for _, r := range u.table.Regs() {
		p = append(p, number(r.Key, keySize)...)
		if u.table.Holds(r.Nexus) {
			p = append(p, 0x01, kind)
		} else {
			p = append(p, 0x00, 0x00)
		}
		p = append(p, 0x00, byte(r.Nexus))
	}
	return p
}

// The parameters of PROut: two keys, and behind them one bit that says something.
const (
	outSize  = 24
	actionAt = 8
	flagsAt  = 20
	aptplBit = 0x01
)

// reserveOut does a service, lets those know that it touches, and keeps the table where that lasts, or lasts no more.
func (u *Unit) reserveOut(nexus int, c api.Cmd, out []byte) api.Result {
	if c.Alloc != outSize || len(out) != outSize {
		return wrongLength()
	}
	if at, bit := idle(out); at >= 0 {
		return check(api.Sense{Key: api.IllegalReq, Code: api.InvalidParam, Field: at, Bit: bit, HasField: true})
	}
	lasted := u.table.Lasts()
	status, code, told := u.table.Do(nexus, pr.Out{
		Service: c.Service,
		Type:    c.Type,
		Key:     value(out[:actionAt]),
		Action:  value(out[actionAt : actionAt+keySize]),
		APTPL:   out[flagsAt]&aptplBit != 0,
	})
	if status != api.Good {
		return refused(status, code)
	}
	for _, t := range told {
		u.attns.Add(t.Nexus, t.Code)
	}
	if lasted || u.table.Lasts() {
		return u.keep()
	}
	return good(nil)
}

// refused tells how a service ended that wasn't done.
func refused(status api.Status, code uint16) api.Result {
	if status == api.Check {
		return ends(api.IllegalReq, code)
	}
	return api.Result{Status: status}
}

// idle tells the first byte of PROut's parameters with a bit 1 that says nothing, and the highest such bit; -1, -1: there is none.
func idle(p []byte) (int, int) {
	for at := actionAt + keySize; at < len(p); at++ {
		b := p[at]
		if at == flagsAt {
			b &^= aptplBit
		}
		if b != 0 {
			return at, bits.Len8(b) - 1
		}
	}
	return -1, -1
}

// Numbers as bytes, the highest byte first: package be is none of those that this layer calls.

func number(v uint64, n int) []byte {
	p := make([]byte, n)
	for i := range n {
		p[n-1-i] = byte(v >> (8 * i))
	}
	return p
}

func value(p []byte) uint64 {
	v := uint64(0)
	for _, b := range p {
		v = v<<8 | uint64(b)
	}
	return v
}
