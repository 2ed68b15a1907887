package pdu

import (
	"pallet/api"
)

// Reader takes PDUs out of bytes that come in pieces.
type Reader struct {
	headers, data bool      // which sums the PDUs have
	waiting       []byte    // what has come and was not yet told as PDUs
	fault         api.Errno // what Next tells for ever; OK as long as nothing was wrong
}

// New tells a reader to which no bytes have come, of PDUs without sums.
func New() *Reader { return &Reader{} }

// Digests has PDUs looked at with these sums or without, from the next one on.
func (r *Reader) Digests(headers, data bool) {
	if r == nil {
		return
	}
	r.headers, r.data = headers, data
}

// Feed has bytes wait, unless something was wrong before.
func (r *Reader) Feed(p []byte) {
	if r == nil || r.fault != api.OK {
		return
	}
	r.waiting = append(r.waiting, p...)
}

// Next tells the next PDU; ErrNone: it isn't whole yet.
func (r *Reader) Next() (api.PDU, api.Errno) {
	if r == nil {
		return api.PDU{}, api.ErrNone
	}
	if r.fault != api.OK {
		return api.PDU{}, r.fault
	}
	p, n, e := Decode(r.waiting, r.headers, r.data)
	switch e {
	case api.OK:
		r.waiting = r.waiting[n:]
	case api.ErrNone:
	default:
		r.fault, r.waiting = e, nil
	}
	return p, e
}

// Held tells how many bytes wait.
func (r *Reader) Held() int {
	if r == nil {
		return 0
	}
	return len(r.waiting)
}
