package target

import (
	"bytes"
	"math"
	"strings"
	"testing"

	"pallet/api"
	"pallet/world"
)

// The power goes off.

func TestCrashHasNothingLeft(t *testing.T) {
	for _, pick := range []int{math.MinInt, -1, 0, 1, 100, math.MaxInt} {
		for _, cut := range []int{math.MinInt, 0, 1, math.MaxInt} {
			r := twoIn(t)
			r.connect(5)
			r.send(0, plainTask(0, 1, 1), command(0, 2, writes, 32, write(0, 2)))
			r.send(1, plainTask(0, 1, 2))
			old := r.Unit(0)
			r.do(Event{Kind: Crash, Pick: pick, Cut: cut, Conn: -1, Data: fill(1, 3)})
			r.wantNexus()
			r.wantReady(0)
			for n := range 8 {
				r.wantThere(n, false)
			}
			wantDo(t, r.Target, Event{Kind: Step}, api.ErrNone)
			for i := range 3 {
				if r.Unit(i) == nil || r.Unit(i) == old || r.Unit(i).Count() != 0 {
					t.Errorf("the unit %d isn't new", i)
				}
			}
			if r.Unit(3) != nil {
				t.Errorf("there is a unit more")
			}
			// A login behind it, with the same tags; the sets have none of the old tasks.
			r.logIn(0, "j")
			r.wantNexus(1)
			r.send(0, plainTask(0, 1, 2), plainTask(0, 2, 1), plainTask(7, 3, 1))
			r.wantReady(2)
			r.runAll()
			r.wantNews(0, powerOn(1), good(2), powerOn(3))
		}
	}
}

// P5: what was told done with FUA is there, and what waits is cut as the world cuts it.
func TestCrashKeeps(t *testing.T) {
	for _, pick := range []int{0, 1, 2, 3} {
		for _, cut := range []int{0, 5, 16, 100} {
			r, w := twoIn(t), world.New()
			x, _ := New(w, usual())
			direct := x.Unit(0)
			r.send(0, command(0, 1, writes|2, 16, writeFUA(0, 1), fill(5, 16)...), command(0, 2, writes|2, 16, write(1, 1), fill(6, 16)...),
				command(0, 3, writes|2, 32, write(2, 2), fill(7, 32)...))
			r.runAll()
			r.wantNews(0, good(1), good(2), good(3))
			direct.Do(0, ready, nil)
			direct.Do(0, writeFUA(0, 1), fill(5, 16))
			direct.Do(0, write(1, 1), fill(6, 16))
			direct.Do(0, write(2, 2), fill(7, 32))
			r.crash(pick, cut)
			w.Crash(pick, cut)
			if r.w.Waits() != 0 || r.w.Off() {
				t.Errorf("Crash(%d, %d): the world wasn't told", pick, cut)
			}
			y, _ := New(w, usual())
			y.Unit(0).Do(0, ready, nil)
			wanted := y.Unit(0).Do(0, read(0, 8), nil)
			r.logIn(0, "i")
			r.send(0, plainTask(0, 1, 2), command(0, 2, reads|2, 128, read(0, 8)))
			r.runAll()
			list := r.news(0)
			if len(list) != 3 || !bytes.Equal(list[1].Data, wanted.Data) || !bytes.HasPrefix(wanted.Data, fill(5, 16)) {
				t.Errorf("Crash(%d, %d): %v; want %x", pick, cut, list, wanted.Data)
			}
		}
	}
}

// Reservations that last do so for the nexus of the same name.
func TestCrashReserved(t *testing.T) {
	r := twoIn(t)
	r.send(0, command(0, 1, writes|2, 24, prOut(6, 0), keys(0, 9, true)...), command(0, 2, writes|2, 24, prOut(1, 3), keys(9, 0, false)...))
	r.send(1, command(7, 1, writes|2, 24, prOut(6, 0), keys(0, 8, false)...), command(7, 2, writes|2, 24, prOut(1, 1), keys(8, 0, false)...))
	r.runAll()
	r.wantNews(0, good(1), good(2))
	r.wantNews(1, good(1), good(2))
	r.crash(0, 0)
	r.logIn(6, "i")
	r.logIn(3, "j")
	r.send(6, plainTask(0, 1, 1), command(0, 2, reads, 16, read(0, 1)))
	r.send(3, plainTask(0, 1, 1), command(0, 2, reads, 16, read(0, 1)), plainTask(7, 3, 1), command(7, 4, writes, 16, write(0, 1), fill(3, 16)...))
	r.runAll()
	r.wantNews(6, powerOn(1), dataIn(2, strings.Repeat("00", 16)), good(2))
	r.wantNews(3, powerOn(1), "response 2 18", powerOn(3), good(4))
	if _, kind, holder := r.Unit(2).Table(); kind != 0 || holder != -1 {
		t.Errorf("a reservation that doesn't last is there: %d, %d", kind, holder)
	}
}

// The files may fail, or be off, as long as the target goes on: the units tell it.
func TestPowerGoesOff(t *testing.T) {
	r := twoIn(t)
	r.w.Plan(nil, 0)
	r.send(0, command(0, 1, writes|2, 16, writeFUA(0, 1), fill(5, 16)...), plainTask(0, 2, 2))
	r.runAll()
	r.wantNews(0, "response 1 02 fixed 3 0c00", good(2))
	if !r.w.Off() {
		t.Errorf("the power is on")
	}
	r.crash(0, 0)
	r.logIn(0, "i")
	r.send(0, plainTask(0, 1, 2), command(0, 2, reads|2, 16, read(0, 1)))
	r.runAll()
	r.wantNews(0, powerOn(1), dataIn(2, strings.Repeat("00", 16)), good(2))
}
