package pr

import (
	"slices"

	"pallet/api"
)

// Out is what a service of PERSISTENT RESERVE OUT wants.
type Out struct {
	Service byte
	Type    byte
	Key     uint64 // the nexus' own
	Action  uint64 // the service action's key
	APTPL   bool
}

// Event: a nexus is to be told of a code.
type Event struct {
	Nexus int
	Code  uint16
}

// The services of OUT.
const (
	Register = 0
	Reserve  = 1
	Release  = 2
	Clear    = 3
	Preempt  = 4
	Abort    = 5
	Ignore   = 6
)

// Do does a service of a nexus: Good, Conflict, or Check with the code; and who is to be told of what.
func (t *Table) Do(nexus int, o Out) (api.Status, uint16, []Event) {
	if t == nil || !isNexus(nexus) || o.Service > Ignore {
		return api.Check, api.InvalidField, nil
	}
	if !t.allows(nexus, o) {
		return api.Conflict, api.NoCode, nil
	}
	switch o.Service {
	case Reserve:
		return t.reserve(nexus, o.Type)
	case Release:
		return t.release(nexus, o.Type)
	case Clear:
		return api.Good, api.NoCode, t.clear(nexus)
	case Preempt, Abort:
		return t.preempt(nexus, o)
	}
	return api.Good, api.NoCode, t.register(nexus, o)
}

// allows: the key that came with a service is the one that it needs.
func (t *Table) allows(nexus int, o Out) bool {
	switch o.Service {
	case Ignore:
		return true
	case Register:
		return o.Key == t.keys[nexus]
	}
	return t.registered(nexus) && o.Key == t.keys[nexus]
}

// register gives the nexus its key, or has its registration gone.
func (t *Table) register(nexus int, o Out) []Event {
	t.keys[nexus] = o.Action
	t.lasts = o.APTPL
	t.gen++
	if o.Action == 0 && t.bereft(nexus) {
		return t.end(nexus)
	}
	return nil
}

// bereft: without the registration of a nexus that is gone there is nobody left who holds the reservation.
func (t *Table) bereft(gone int) bool {
	if All(t.kind) {
		return t.keys == [api.MaxNexus]uint64{}
	}
	return t.kind != api.NoType && t.holder == gone
}

// end has no reservation any more, by a nexus' doing.
func (t *Table) end(nexus int) []Event {
	was := t.kind
	t.kind = api.NoType
	if was < api.WriteRegs {
		return nil
	}
	return t.others(nexus, api.ResReleased)
}

func (t *Table) reserve(nexus int, kind byte) (api.Status, uint16, []Event) {
	switch {
	case !Types(kind):
		return api.Check, api.InvalidField, nil
	case t.kind == api.NoType:
		t.kind, t.holder = kind, nexus
		return api.Good, api.NoCode, nil
	case t.Holds(nexus) && t.kind == kind:
		return api.Good, api.NoCode, nil
	}
	return api.Conflict, api.NoCode, nil
}

func (t *Table) release(nexus int, kind byte) (api.Status, uint16, []Event) {
	switch {
	case !t.Holds(nexus):
		return api.Good, api.NoCode, nil
	case t.kind != kind:
		return api.Check, api.InvalidField, nil
	}
	return api.Good, api.NoCode, t.end(nexus)
}

// clear leaves neither registrations nor a reservation.
func (t *Table) clear(nexus int) []Event {
	told := t.others(nexus, api.ResPreempted)
	t.keys = [api.MaxNexus]uint64{}
	t.kind = api.NoType
	t.gen++
	return told
}

// preempt has registrations gone, and makes the reservation the nexus' own where it is taken.
func (t *Table) preempt(nexus int, o Out) (api.Status, uint16, []Event) {
	taken := t.taken(o.Action)
	switch {
	case o.Action == 0 && !taken:
		return api.Check, api.InvalidParam, nil
	case taken && !Types(o.Type):
		return api.Check, api.InvalidField, nil
	case o.Action != 0 && !slices.Contains(t.keys[:], o.Action):
		return api.Conflict, api.NoCode, nil
	}
	told := t.remove(nexus, o.Action)
	if taken {
		if t.kind >= api.WriteRegs && t.kind != o.Type {
			told = append(told, t.others(nexus, api.ResReleased)...)
		}
		t.kind, t.holder = o.Type, nexus
	}
	t.gen++
	return api.Good, api.NoCode, told
}

// taken: who preempts by that key gets the reservation, not registrations alone.
func (t *Table) taken(action uint64) bool {
	switch {
	case t.kind == api.NoType:
		return false
	case All(t.kind):
		return action == 0
	}
	return t.keys[t.holder] == action
}

// remove has the registrations with a key (0: all) gone but the nexus' own, and tells each of them so.
func (t *Table) remove(nexus int, key uint64) []Event {
	var told []Event
	for _, r := range t.Regs() {
		if r.Nexus != nexus && (key == 0 || r.Key == key) {
			t.keys[r.Nexus] = 0
			told = append(told, Event{Nexus: r.Nexus, Code: api.RegPreempted})
		}
	}
	return told
}

// others tells a code to every registered nexus but one.
func (t *Table) others(but int, code uint16) []Event {
	var told []Event
	for _, r := range t.Regs() {
		if r.Nexus != but {
			told = append(told, Event{Nexus: r.Nexus, Code: code})
		}
	}
	return told
}
