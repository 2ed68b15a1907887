package unit

import (
	"pallet/api"
	"pallet/mode"
	"pallet/pr"
)

// The bits of the first byte of what is kept: which values were saved. Behind it stands the table.
const (
	keptWCE    = 1
	keptDSense = 2
	keptSWP    = 4
	keptAll    = keptWCE | keptDSense | keptSWP
)

// Start reads what was kept, if nobody has made it yet, and tells what is wrong with that.
func (u *Unit) Start() api.Errno {
	if u == nil {
		return api.ErrNone
	}
	u.once.Do(u.load)
	return u.fault
}

// load makes the unit what was kept of it; nothing of it, if there is a fault.
func (u *Unit) load() {
	u.attns.AddAll(nobody, api.PowerOn)
	p, _, e := u.slots.Load()
	if e == api.ErrNone {
		return
	}
	if e == api.OK {
		e = u.take(p)
	}
	u.fault = e
}

// take makes the values and the table those of a payload.
func (u *Unit) take(p []byte) api.Errno {
	if len(p) == 0 || p[0] > keptAll {
		return api.ErrForm
	}
	table, e := pr.Load(p[1:])
	if e != api.OK {
		return e
	}
	v := mode.Values{WCE: p[0]&keptWCE != 0, DSense: p[0]&keptDSense != 0, SWP: p[0]&keptSWP != 0}
	u.table, u.pages = table, mode.New(v)
	u.setCache()
	return api.OK
}

// setCache gives the store a cache, or none, as the current values say.
func (u *Unit) setCache() { u.dev.Store.SetCache(u.pages.Now().WCE) }

// keep makes the saved values and the table durable.
func (u *Unit) keep() api.Result {
	payload := append([]byte{flags(u.pages.Saved())}, u.table.Save()...)
	if _, e := u.slots.Save(payload); e != api.OK {
		return ends(api.MediumError, api.WriteFault)
	}
	return good(nil)
}

// flags tells values as the first byte of what is kept.
func flags(v mode.Values) byte {
	b := byte(0)
	if v.WCE {
		b |= keptWCE
	}
	if v.DSense {
		b |= keptDSense
	}
	if v.SWP {
		b |= keptSWP
	}
	return b
}
