package target

import (
	"slices"

	"pallet/api"
	"pallet/inq"
	"pallet/unit"
	"pallet/world"
)

// check tells what is wrong with what a target is to be made of.
func check(w *world.World, c Config) api.Errno {
	switch {
	case len(c.Units) < 1 || len(c.Units) > api.MaxUnits || len(c.Initiators) > api.MaxNexus:
		return api.ErrArg
	case slices.ContainsFunc(c.Units, hasWrongSize):
		return api.ErrArg
	case !areNames(c.Initiators) || !c.isAccess() || slices.ContainsFunc(c.Units, isFormless):
		return api.ErrForm
	case w == nil:
		return api.ErrNone
	}
	return api.OK
}

func hasWrongSize(u unit.Config) bool {
	return u.Blocks < 1 || u.Blocks > api.MaxBlocks
}

func isFormless(u unit.Config) bool {
	return !inq.Form(u.Info)
}

// areNames: each name can stand for one initiator.
func areNames(list []string) bool {
	for at, name := range list {
		if name == "" || slices.Contains(list[:at], name) {
			return false
		}
	}
	return true
}

// isAccess: each initiator sees at most one unit under a number, and all of these are there.
func (c Config) isAccess() bool {
	for at, a := range c.Access {
		if !c.names(a) || slices.ContainsFunc(c.Access[:at], a.meets) {
			return false
		}
	}
	return true
}

// names: there is what an Access speaks of.
func (c Config) names(a Access) bool {
	return isAmong(a.Nexus, len(c.Initiators)) && isAmong(a.LUN, api.MaxUnits) && isAmong(a.Unit, len(c.Units))
}

// meets: two of them speak of one number of one nexus.
func (a Access) meets(b Access) bool {
	return a.Nexus == b.Nexus && a.LUN == b.LUN
}

func isAmong(n, count int) bool {
	return n >= 0 && n < count
}

// unitAt tells the number of the unit that a nexus sees under a number; -1: it sees none.
func (c Config) unitAt(nexus, lun int) int {
	at := slices.IndexFunc(c.Access, Access{Nexus: nexus, LUN: lun}.meets)
	if at < 0 {
		return none
	}
	return c.Access[at].Unit
}

// luns tells all numbers under which a nexus sees units, rising.
func (c Config) luns(nexus int) []int {
	var list []int
	for lun := range api.MaxUnits {
		if c.unitAt(nexus, lun) != none {
			list = append(list, lun)
		}
	}
	return list
}
