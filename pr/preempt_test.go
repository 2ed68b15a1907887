package pr

import (
	"math"
	"testing"

	"pallet/api"
)

// P10.1, the services Preempt and Abort.

func bothPreempt() []byte { return []byte{Preempt, Abort} }

func TestPreemptTakesTheReservation(t *testing.T) {
	for _, service := range bothPreempt() {
		for _, was := range []byte{1, 3, 5, 6} {
			for _, kind := range sixTypes() {
				x := three(t, was)
				for _, none := range noTypes() {
					refused(t, x, 7, Out{Service: service, Key: keyC, Action: keyB, Type: none}, api.Check, api.InvalidField)
				}
				events := told(api.RegPreempted, 4)
				if was >= 5 && was != kind {
					events = append(events, told(api.ResReleased, 1)...)
				}
				wantGood(t, x, 7, Out{Service: service, Key: keyC, Action: keyB, Type: kind}, events...)
				holder := 7
				if kind >= 7 {
					holder = -1
				}
				wantReserved(t, x, kind, holder)
				wantRegs(t, x, api.Reg{Nexus: 1, Key: keyA}, api.Reg{Nexus: 7, Key: keyC})
				wantGen(t, x, 4)
			}
		}
	}
}

// By another key than the holder's, registrations go alone; the type isn't looked at.
func TestPreemptOfRegistrationsAlone(t *testing.T) {
	for _, service := range bothPreempt() {
		for _, was := range append(sixTypes(), api.NoType) {
			for _, kind := range []byte{0, 1, 2, 3, 5, 8, 9, 255} {
				x := with(t, api.Reg{Nexus: 1, Key: keyA}, api.Reg{Nexus: 4, Key: keyB}, api.Reg{Nexus: 7, Key: keyC})
				if was != api.NoType {
					x = three(t, was)
				}
				ahead, holder := x.Reserved()
				wantGood(t, x, 7, Out{Service: service, Key: keyC, Action: keyA, Type: kind}, told(api.RegPreempted, 1)...)
				wantReserved(t, x, ahead, holder)
				wantRegs(t, x, api.Reg{Nexus: 4, Key: keyB}, api.Reg{Nexus: 7, Key: keyC})
				wantGen(t, x, 4)
			}
		}
	}
}

func TestPreemptByAKeyThatNobodyHas(t *testing.T) {
	for _, service := range bothPreempt() {
		for _, was := range sixTypes() {
			for _, action := range []uint64{1, 0xd, keyB + 1<<32, math.MaxUint64} {
				for _, kind := range []byte{0, 1, 8, 9} {
					refused(t, three(t, was), 7, Out{Service: service, Key: keyC, Action: action, Type: kind}, api.Conflict, 0)
				}
			}
		}
		refused(t, with(t, api.Reg{Nexus: 1, Key: keyA}), 1, Out{Service: service, Key: keyA, Action: keyB}, api.Conflict, 0)
	}
}

func TestPreemptByZero(t *testing.T) {
	for _, service := range bothPreempt() {
		for _, was := range []byte{1, 3, 5, 6} {
			for kind := range 256 {
				refused(t, three(t, was), 7, Out{Service: service, Key: keyC, Type: byte(kind)}, api.Check, api.InvalidParam)
			}
		}
		for kind := range 256 {
			refused(t, with(t, api.Reg{Nexus: 7, Key: keyC}), 7, Out{Service: service, Key: keyC, Type: byte(kind)}, api.Check, api.InvalidParam)
		}
		for _, was := range []byte{7, 8} {
			for _, kind := range sixTypes() {
				x := three(t, was)
				for _, none := range noTypes() {
					refused(t, x, 4, Out{Service: service, Key: keyB, Type: none}, api.Check, api.InvalidField)
				}
				// All others have gone: nobody is left to be told that the type is another one.
				wantGood(t, x, 4, Out{Service: service, Key: keyB, Type: kind}, told(api.RegPreempted, 1, 7)...)
				holder := 4
				if kind >= 7 {
					holder = -1
				}
				wantReserved(t, x, kind, holder)
				wantHolders(t, x, 4)
				wantRegs(t, x, api.Reg{Nexus: 4, Key: keyB})
				wantGen(t, x, 4)
			}
		}
	}
}

// The nexus' own registration stays, though it has the key too.
func TestPreemptByTheOwnKey(t *testing.T) {
	for _, service := range bothPreempt() {
		regs := []api.Reg{{Nexus: 0, Key: keyB}, {Nexus: 2, Key: keyA}, {Nexus: 4, Key: keyA}, {Nexus: 6, Key: keyA}}
		x := with(t, regs...)
		wantGood(t, x, 4, Out{Service: service, Key: keyA, Action: keyA}, told(api.RegPreempted, 2, 6)...)
		wantRegs(t, x, regs[0], regs[2])
		wantGood(t, x, 4, Out{Service: service, Key: keyA, Action: keyA})
		wantRegs(t, x, regs[0], regs[2])
		wantReserved(t, x, api.NoType, -1)
		wantGen(t, x, 6)
	}
}

// Who holds the reservation may so get one of another type.
func TestPreemptOfTheOwnReservation(t *testing.T) {
	for _, service := range bothPreempt() {
		for _, was := range []byte{1, 3, 5, 6} {
			for _, kind := range sixTypes() {
				x := three(t, was)
				var events []Event
				if was >= 5 && was != kind {
					events = told(api.ResReleased, 1, 7)
				}
				wantGood(t, x, 4, Out{Service: service, Key: keyB, Action: keyB, Type: kind}, events...)
				if got, _ := x.Reserved(); got != kind || !x.Holds(4) {
					t.Errorf("type %d became %d; want %d", was, got, kind)
				}
				wantGen(t, x, 4)
			}
		}
	}
}

// Others with the holder's key go with it; those that stay are told behind all of them.
func TestPreemptTellsWhoWentFirst(t *testing.T) {
	for _, service := range bothPreempt() {
		x := New()
		for nexus := range api.MaxNexus {
			wantGood(t, x, nexus, Out{Service: Register, Action: keyA + uint64(nexus%2)})
		}
		wantGood(t, x, 3, Out{Service: Reserve, Key: keyB, Type: api.ExclRegs})
		events := append(told(api.RegPreempted, 1, 3, 5, 7), told(api.ResReleased, 0, 2, 6)...)
		wantGood(t, x, 4, Out{Service: service, Key: keyA, Action: keyB, Type: api.WriteExcl}, events...)
		wantReserved(t, x, api.WriteExcl, 4)
	}
}

// A key that isn't 0 never takes what all hold, be it the one's that reserved.
func TestPreemptByAKeyDoesntTakeWhatAllHold(t *testing.T) {
	for _, service := range bothPreempt() {
		for _, was := range []byte{7, 8} {
			x := three(t, was)
			wantGood(t, x, 1, Out{Service: service, Key: keyA, Action: keyB, Type: 1}, told(api.RegPreempted, 4)...)
			wantReserved(t, x, was, -1)
			wantHolders(t, x, 1, 7)
		}
	}
}
