package unit

import (
	"pallet/api"
	"pallet/pr"
	"pallet/xcopy"
)

// The bits that say that a unit may not be read, and may not be written, by a copy.
const (
	notRead    = 1
	notWritten = 2
)

// copyBlocks copies blocks among this unit and its peers.
func (u *Unit) copyBlocks(nexus int, c api.Cmd, out []byte) api.Result {
	if len(out) != c.Alloc {
		return wrongLength()
	}
	list, why, ok := xcopy.Parse(out)
	if !ok {
		return check(why)
	}
	_, r := xcopy.Run(list, u.within(nexus))
	return r
}

// within tells the units that a copy of a nexus may reach, this one first.
func (u *Unit) within(nexus int) []xcopy.Named {
	list := []xcopy.Named{u.named(nexus)}
	for _, p := range u.peers {
		if p.Start() == api.OK {
			list = append(list, p.named(nexus))
		}
	}
	return list
}

// named tells the unit as copies of a nexus find it.
func (u *Unit) named(nexus int) xcopy.Named {
	n := xcopy.Named{Serial: u.info.Serial, Dev: &u.dev}
	if u.table.Conflict(nexus, pr.Reads) {
		n.Shut |= notRead
	}
	if u.table.Conflict(nexus, pr.Writes) || u.pages.Now().SWP {
		n.Shut |= notWritten
	}
	return n
}
