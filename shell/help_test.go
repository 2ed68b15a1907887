package shell

import (
	"encoding/hex"
	"fmt"
	"strings"
	"testing"

	"pallet/api"
)

// want has a shell answer a line, and holds the text of its answer against the one that is wanted.
func want(t *testing.T, s *Shell, line, wanted string) {
	t.Helper()
	if got := s.Line(line); got != (Reply{Text: wanted}) {
		t.Fatalf("Line(%q) = %+v; want %q", line, got, wanted)
	}
}

// wantFault has a shell refuse a line, and looks whether anything has changed.
func wantFault(t *testing.T, s *Shell, line string, e api.Errno, at int) {
	t.Helper()
	before := state(s)
	if got := s.Line(line); got != (Reply{At: at, E: e}) {
		t.Fatalf("Line(%q) = %+v; want %d at %d", line, got, e, at)
	}
	if after := state(s); after != before {
		t.Fatalf("Line(%q) has changed\n%s to\n%s", line, before, after)
	}
}

// state tells what can be seen of a shell that has begun, without a line.
func state(s *Shell) string {
	regs, kind, holder := s.unit.Table()
	text := fmt.Sprintf("%p %p %v %04x ops %d waits %d off %v count %d table %v %d %d", s.world, s.unit, s.config, s.last,
		s.world.Ops(), s.world.Waits(), s.world.Off(), s.unit.Count(), regs, kind, holder)
	for _, name := range s.world.Names() {
		text += fmt.Sprintf(" %s %d", name, s.world.Size(name))
	}
	return text
}

const ready = "000000000000"

// awake tells a new shell whose nexuses have all been told of the power.
func awake(t *testing.T) *Shell {
	t.Helper()
	s := New()
	wake(t, s)
	return s
}

func wake(t *testing.T, s *Shell) {
	t.Helper()
	for nexus := range 8 {
		want(t, s, fmt.Sprintf("cmd %d %s", nexus, ready), "2 6 2900")
		want(t, s, fmt.Sprintf("cmd %d %s", nexus, ready), "0")
	}
}

// busy tells a shell of which much can be told: blocks, changes that wait, a reservation, a sense.
func busy(t *testing.T) *Shell {
	t.Helper()
	s := awake(t)
	want(t, s, "cmd 0 "+write(1)+" "+block("11"), "0")
	want(t, s, "cmd 2 "+prOut("06", "00")+" "+keys(0, 0xab, true), "0")
	want(t, s, "cmd 2 "+prOut("01", "05")+" "+keys(0xab, 0, false), "0")
	want(t, s, "cmd 2 "+write(2)+" "+block("22"), "0")
	want(t, s, "cmd 2 "+read(64), "2 5 2100")
	return s
}

// block tells the digits of a block, all its bytes alike.
func block(digits string) string { return strings.Repeat(digits, 16) }

// Commands of one block, and of reservations, in digits.

func read(lba int) string { return fmt.Sprintf("2800%08x00000100", lba) }

func write(lba int) string { return fmt.Sprintf("2a00%08x00000100", lba) }

func writeFUA(lba int) string { return fmt.Sprintf("2a08%08x00000100", lba) }

const (
	syncCache    = "35000000000000000000"
	readCapacity = "25000000000000000000"
)

func prOut(service, kind string) string { return "5f" + service + kind + "000000000018" + "00" }

func keys(key, action uint64, lasts bool) string {
	last := "00"
	if lasts {
		last = "01"
	}
	return fmt.Sprintf("%016x%016x00000000%s000000", key, action, last)
}

// text tells the digits of characters, with blanks behind them up to n.
func text(word string, n int) string {
	return hex.EncodeToString([]byte(word + strings.Repeat(" ", n-len(word))))
}

func blanks(n int) string { return strings.Repeat(" ", n) }
