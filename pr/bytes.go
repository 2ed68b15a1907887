package pr

import (
	"pallet/api"
	"pallet/be"
)

const (
	headSize = 5 // PR, the type, the holder, how many registrations
	keySize  = 8
	regSize  = 1 + keySize
	noHolder = 0xff
)

// Save tells a table that lasts as bytes, one that doesn't as none.
func (t *Table) Save() []byte {
	if !t.Lasts() {
		return nil
	}
	kind, holder := t.Reserved()
	regs := t.Regs()
	p := []byte{'P', 'R', kind, noHolder, byte(len(regs))}
	if holder != nobody {
		p[3] = byte(holder)
	}
	for _, r := range regs {
		key, _ := be.Put(make([]byte, keySize), 0, keySize, r.Key)
		p = append(p, byte(r.Nexus))
		p = append(p, key...)
	}
	return p
}

// Load tells the table that was saved as these bytes; of no bytes a new one.
func Load(p []byte) (*Table, api.Errno) {
	if len(p) == 0 {
		return New(), api.OK
	}
	t := &Table{lasts: true}
	if !framed(p) || !t.takeRegs(p[headSize:]) || !t.takeReservation(p[2], p[3]) {
		return nil, api.ErrForm
	}
	return t, api.OK
}

// framed: the bytes begin as a table's do, and are as many as its registrations need.
func framed(p []byte) bool {
	return len(p) >= headSize && p[0] == 'P' && p[1] == 'R' && len(p) == headSize+regSize*int(p[4])
}

// takeRegs takes registrations over, unless one of them is none that a table has there.
func (t *Table) takeRegs(p []byte) bool {
	last := nobody
	for at := 0; at < len(p); at += regSize {
		nexus := int(p[at])
		key, _ := be.Get(p, at+1, keySize)
		if nexus <= last || !isNexus(nexus) || key == 0 {
			return false
		}
		t.keys[nexus] = key
		last = nexus
	}
	return true
}

// takeReservation takes the reservation over, unless no table with these registrations has it.
func (t *Table) takeReservation(kind, holder byte) bool {
	t.kind, t.holder = kind, int(holder)
	switch {
	case kind == api.NoType:
		return holder == noHolder
	case All(kind):
		return holder == noHolder && len(t.Regs()) > 0
	}
	return Types(kind) && t.registered(t.holder)
}
