package world

import (
	"maps"
	"math"
	"math/rand"
	"slices"
	"strings"
	"testing"

	"pallet/api"
)

// model is a world reckoned otherwise: files are texts, each state of the files since the last one that was durable is kept whole.
type model struct {
	states []map[string]string // the first is durable, the last is seen
	cuts   []func(cut int) map[string]string
	fails  []int
	stop   int
	ops    int
	off    bool
}

func newModel() *model {
	return &model{states: []map[string]string{{}}, stop: -1}
}

func (m *model) seen() map[string]string { return m.states[len(m.states)-1] }

func (m *model) call() api.Errno {
	if m.off {
		return api.ErrCrash
	}
	m.ops++
	if m.ops-1 == m.stop {
		m.off = true
		return api.ErrCrash
	}
	if slices.Contains(m.fails, m.ops-1) {
		return api.ErrIO
	}
	return api.OK
}

func badName(name string) bool { return name == "" || len(name) > 32 }

func overwritten(text string, off int, p string) string {
	if len(text) < off {
		text += strings.Repeat("\x00", off-len(text))
	}
	out := text[:off] + p
	if len(out) < len(text) {
		out += text[len(out):]
	}
	return out
}

// done adds a state; cut tells the state with the first bytes of the change alone.
func (m *model) done(next map[string]string, cut func(cut int) map[string]string) {
	m.states = append(m.states, next)
	m.cuts = append(m.cuts, cut)
}

func (m *model) write(file string, off int, p string) api.Errno {
	if badName(file) || off < 0 {
		return api.ErrArg
	}
	if off > 1048576 || off+len(p) > 1048576 {
		return api.ErrLong
	}
	if e := m.call(); e != api.OK {
		return e
	}
	before := m.seen()
	with := func(n int) map[string]string {
		next := maps.Clone(before)
		next[file] = overwritten(before[file], off, p[:n])
		return next
	}
	m.done(with(len(p)), func(cut int) map[string]string {
		if cut <= 0 {
			return before
		}
		return with(min(cut, len(p)))
	})
	return api.OK
}

func (m *model) read(file string, off, n int) (string, api.Errno) {
	if badName(file) || off < 0 || n < 0 {
		return "", api.ErrArg
	}
	if e := m.call(); e != api.OK {
		return "", e
	}
	text, there := m.seen()[file]
	if !there {
		return "", api.ErrNone
	}
	if off > len(text) {
		return "", api.OK
	}
	if n > len(text)-off {
		n = len(text) - off
	}
	return text[off : off+n], api.OK
}

// moved is Rename, and with no other name Remove.
func (m *model) moved(from string, to []string) api.Errno {
	if badName(from) || len(to) == 1 && badName(to[0]) {
		return api.ErrArg
	}
	if e := m.call(); e != api.OK {
		return e
	}
	before := m.seen()
	text, there := before[from]
	if !there {
		return api.ErrNone
	}
	next := map[string]string{}
	for name, t := range before {
		if name != from {
			next[name] = t
		}
	}
	for _, name := range to {
		next[name] = text
	}
	m.done(next, func(int) map[string]string { return before })
	return api.OK
}

func (m *model) sync() api.Errno {
	if e := m.call(); e != api.OK {
		return e
	}
	m.states, m.cuts = []map[string]string{m.seen()}, nil
	return api.OK
}

func (m *model) crash(keep, cut int) {
	keep = max(keep, 0)
	state := m.seen()
	if keep < len(m.cuts) {
		state = m.cuts[keep](cut)
	}
	*m = *newModel()
	m.states[0] = state
}

func same(t *testing.T, w *World, m *model) {
	t.Helper()
	seen := m.seen()
	names := slices.Sorted(maps.Keys(seen))
	if !slices.Equal(w.Names(), names) {
		t.Fatalf("Names = %q, want %q", w.Names(), names)
	}
	for _, name := range []string{"a", "b", "c", ""} {
		size := -1
		if text, there := seen[name]; there {
			size = len(text)
		}
		if w.Size(name) != size {
			t.Fatalf("Size(%q) = %d, want %d", name, w.Size(name), size)
		}
	}
	if w.Ops() != m.ops || w.Waits() != len(m.cuts) || w.Off() != m.off {
		t.Fatalf("Ops %d, Waits %d, Off %v; want %d, %d, %v", w.Ops(), w.Waits(), w.Off(), m.ops, len(m.cuts), m.off)
	}
}

func TestAsTheModel(t *testing.T) {
	for seed := range int64(300) {
		r := rand.New(rand.NewSource(seed))
		w, m := New(), newModel()
		for range 150 {
			step(t, r, w, m)
			same(t, w, m)
		}
	}
}

// step does one thing to both and holds their answers against each other.
func step(t *testing.T, r *rand.Rand, w *World, m *model) {
	t.Helper()
	names := []string{"a", "b", "c", "a", "b", "c", "a", "b", "", tooLong}
	name, other := names[r.Intn(len(names))], names[r.Intn(len(names))]
	var got, wanted api.Errno
	what := r.Intn(20)
	switch {
	case what < 7:
		off, p := r.Intn(12)-1, strings.Repeat(string(rune('A'+r.Intn(26))), r.Intn(6))
		if r.Intn(20) == 0 {
			off = []int{math.MinInt, math.MaxInt, api.MaxFile + 1}[r.Intn(3)]
		}
		got, wanted = w.Write(name, off, []byte(p)), m.write(name, off, p)
	case what < 11:
		off, n := r.Intn(14)-1, r.Intn(14)-1
		p, e := w.Read(name, off, n)
		q, f := m.read(name, off, n)
		if string(p) != q {
			t.Fatalf("Read(%q, %d, %d) = %q, want %q", name, off, n, p, q)
		}
		got, wanted = e, f
	case what < 13:
		got, wanted = w.Rename(name, other), m.moved(name, []string{other})
	case what < 14:
		got, wanted = w.Remove(name), m.moved(name, nil)
	case what < 16:
		got, wanted = w.Sync(), m.sync()
	case what < 18:
		fails := []int{r.Intn(20) - 2, r.Intn(20) - 2, r.Intn(20) - 2}[:r.Intn(4)]
		stop := r.Intn(40) - 15
		w.Plan(fails, stop)
		m.fails, m.stop, m.ops = fails, stop, 0
	default:
		keep, cut := r.Intn(12)-2, r.Intn(9)-2
		w.Crash(keep, cut)
		m.crash(keep, cut)
	}
	if got != wanted {
		t.Fatalf("thing %d of %q, %q: %d, want %d", what, name, other, got, wanted)
	}
}

// P1: neither a zero value nor a copy of a used world panics; nothing else is promised of them.
func TestStrangeWorldsDoNotPanic(t *testing.T) {
	for seed := range int64(100) {
		r := rand.New(rand.NewSource(seed))
		worlds := []*World{{}, New()}
		for range 200 {
			w := worlds[r.Intn(len(worlds))]
			for _, call := range append(calls(), callsOfNone()...)[:r.Intn(8)] {
				call(w)
			}
			switch r.Intn(4) {
			case 0:
				w.Crash(r.Intn(5)-1, r.Intn(5)-1)
			case 1:
				w.Plan(nil, -1)
			case 2:
				twin := *w
				worlds = append(worlds, &twin)
			}
			w.Names()
			w.Size("f")
			w.Waits()
		}
	}
}

// P2: the same is told again, however the map is gone through.
func TestTheSameAgain(t *testing.T) {
	run := func() string {
		w := New()
		r := rand.New(rand.NewSource(5))
		for range 200 {
			w.Write(string(rune('a'+r.Intn(26))), r.Intn(5), []byte{byte('a' + r.Intn(26))})
		}
		w.Crash(150, 1)
		return told(t, w)
	}
	first := run()
	for range 20 {
		if run() != first {
			t.Fatal("two runs differ")
		}
	}
}
