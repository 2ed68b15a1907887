package shell

import (
	"math"
	"strconv"

	"pallet/api"
	"pallet/chap"
	"pallet/sense"
	"pallet/unit"
)

// command reads the words behind a command's name, does it, and tells its answer. It reads to the end ahead of doing anything: a line with a fault changes nothing.
type command func(*words) (string, api.Errno)

// answer tells the answer to a line.
func (s *Shell) answer(w *words) Reply {
	if !w.more() {
		return Reply{}
	}
	do := s.named(w)
	text, e := do(w)
	return Reply{Text: text, E: e}
}

// named tells the command whose name is the next word.
func (s *Shell) named(w *words) command {
	name, at := w.word()
	switch name {
	case "cmd":
		return s.cmd
	case "crash":
		return s.crash
	case "plan":
		return s.plan
	case "unit":
		return s.newUnit
	case "sense":
		return s.sense
	case "regs":
		return s.regs
	case "sync":
		return s.sync
	case "ops":
		return s.ops
	}
	panic(fault{at, api.ErrName})
}

// cmd sends the unit a command.
func (s *Shell) cmd(w *words) (string, api.Errno) {
	nexus, cmd := w.number(), w.bytes()
	var out []byte
	if w.more() {
		out = w.bytes()
	}
	w.end()
	r := s.unit.Do(nexus, cmd, out)
	s.last = r.Sense.Code
	return told(r), api.OK
}

// crash puts the power off and on again.
func (s *Shell) crash(w *words) (string, api.Errno) {
	keep, cut := w.number(), w.number()
	w.end()
	s.world.Crash(keep, cut)
	// There was a unit of that kind: nothing is to refuse.
	s.unit, _ = unit.New(s.world, unitName, s.config)
	return "", api.OK
}

// mostFails is how many calls a plan can have fail.
const mostFails = 1000

// plan has calls of the files fail.
func (s *Shell) plan(w *words) (string, api.Errno) {
	first, count := w.number(), w.number()
	w.end()
	var fails []int
	for i := range min(count, mostFails) {
		fails = append(fails, first+i)
	}
	const never = -1
	s.world.Plan(fails, never)
	return "", api.OK
}

// newUnit begins anew, with a unit of another kind.
func (s *Shell) newUnit(w *words) (string, api.Errno) {
	blocks, prot := w.number(), w.number()
	w.end()
	return "", s.remake(config(blocks, byte(min(prot, math.MaxUint8))))
}

// sense names what the last command's sense told.
func (s *Shell) sense(w *words) (string, api.Errno) {
	w.end()
	return sense.Name(s.last), api.OK
}

// regs tells the reservation, and who is registered.
func (s *Shell) regs(w *words) (string, api.Errno) {
	w.end()
	list, kind, holder := s.unit.Table()
	text := pair(int(kind), holder)
	for _, r := range list {
		text += " " + strconv.Itoa(r.Nexus) + ":" + strconv.FormatUint(r.Key, 16)
	}
	return text, api.OK
}

// sync makes all that waits durable.
func (s *Shell) sync(w *words) (string, api.Errno) {
	w.end()
	return "", s.world.Sync()
}

// ops tells how many calls of the files were counted, and how many changes wait.
func (s *Shell) ops(w *words) (string, api.Errno) {
	w.end()
	return pair(s.world.Ops(), s.world.Waits()), api.OK
}

// told tells what a command brought.
func told(r api.Result) string {
	text := strconv.Itoa(int(r.Status))
	if r.Status == api.Check {
		text += " " + strconv.Itoa(int(r.Sense.Key)) + " " + digits([]byte{byte(r.Sense.Code >> 8), byte(r.Sense.Code)})
	}
	if len(r.Data) > 0 {
		text += " " + digits(r.Data)
	}
	return text
}

func pair(a, b int) string { return strconv.Itoa(a) + " " + strconv.Itoa(b) }

// hexMark stands in front of bytes where chap reads and tells them; in lines it does not.
const hexMark = "0x"

// digits tells bytes as two digits of base 16 each.
func digits(p []byte) string { return chap.Hex(p)[len(hexMark):] }
