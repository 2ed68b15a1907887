package unit

import (
	"pallet/api"
	"pallet/cdb"
	"pallet/inq"
	"pallet/sense"
)

// Do carries a command of a nexus out, with the bytes that came.
func (u *Unit) Do(nexus int, command, out []byte) api.Result {
	fault := u.Start()
	if u == nil || !isNexus(nexus) {
		return ends(api.IllegalReq, api.NoUnit)
	}
	u.count.Add(1)
	if fault != api.OK {
		return ends(api.NotReady, api.NoCode)
	}
	c, why, ok := cdb.Parse(command)
	if !ok {
		return check(why)
	}
	if r, off := u.keptOff(nexus, c.Kind); off {
		return r
	}
	return u.carryOut(nexus, c, out)
}

// keptOff tells what a nexus is answered in place of a command, whatever that wants: what it has to be told first, and what protects the unit.
func (u *Unit) keptOff(nexus int, k api.Kind) (api.Result, bool) {
	if !goesAhead(k) {
		if code, waits := u.attns.Next(nexus); waits {
			return ends(api.UnitAttention, code), true
		}
	}
	switch {
	case u.table.Conflict(nexus, Class(k)):
		return api.Result{Status: api.Conflict}, true
	case Alters(k) && u.pages.Now().SWP:
		return ends(api.DataProtect, api.Protected), true
	}
	return api.Result{}, false
}

// carryOut does what a command wants.
func (u *Unit) carryOut(nexus int, c api.Cmd, out []byte) api.Result {
	switch c.Kind {
	case api.TestReady:
		return good(nil)
	case api.RequestSense:
		return u.requestSense(nexus, c)
	case api.Inquiry:
		return u.inquiry(c)
	case api.ReportLuns:
		return good(inq.Cut(inq.Luns([]int{0}), c.Alloc))
	case api.ModeSense:
		return u.modeSense(c)
	case api.ModeSelect:
		return u.modeSelect(nexus, c, out)
	case api.PRIn:
		return good(inq.Cut(u.reserveIn(c.Service), c.Alloc))
	case api.PROut:
		return u.reserveOut(nexus, c, out)
	case api.Copy:
		return u.copyBlocks(nexus, c, out)
	}
	return u.dev.Do(c, out)
}

// requestSense tells as data what the nexus has to be told first, which may be nothing.
func (u *Unit) requestSense(nexus int, c api.Cmd) api.Result {
	var s api.Sense
	if code, waits := u.attns.Next(nexus); waits {
		s = api.Sense{Key: api.UnitAttention, Code: code}
	}
	tell := sense.Fixed
	if c.Long {
		tell = sense.Described
	}
	p, _ := tell(s)
	return good(inq.Cut(p, c.Alloc))
}

func (u *Unit) inquiry(c api.Cmd) api.Result {
	if !c.EVPD {
		return good(inq.Cut(inq.Standard(u.info), c.Alloc))
	}
	p, ok := inq.Page(u.info, c.Page)
	if !ok {
		return check(cdb.Fault(2, 7))
	}
	return good(inq.Cut(p, c.Alloc))
}

func (u *Unit) modeSense(c api.Cmd) api.Result {
	p, why, ok := u.pages.Sense(c)
	if !ok {
		return check(why)
	}
	return good(inq.Cut(p, c.Alloc))
}

// modeSelect takes values over, and keeps them where they are to be saved.
func (u *Unit) modeSelect(nexus int, c api.Cmd, out []byte) api.Result {
	if len(out) != c.Alloc {
		return wrongLength()
	}
	changed, why, ok := u.pages.Select(c, out)
	if !ok {
		return check(why)
	}
	u.setCache()
	if changed {
		u.attns.AddAll(nexus, api.ParamChanged)
	}
	if c.Save && len(out) > 0 {
		return u.keep()
	}
	return good(nil)
}
