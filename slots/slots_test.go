package slots

import (
	"bytes"
	"fmt"
	"math"
	"slices"
	"strings"
	"testing"

	"pallet/api"
	"pallet/world"
)

func open(t *testing.T, w *world.World) *Slots {
	t.Helper()
	s, e := Open(w, "k")
	if s == nil || e != api.OK {
		t.Fatalf("Open = %v, %d", s, e)
	}
	return s
}

// lay makes a file of just these bytes, durable.
func lay(t *testing.T, w *world.World, file string, p []byte) {
	t.Helper()
	w.Remove(file)
	if e := w.Write(file, 0, p); e != api.OK {
		t.Fatalf("Write: %d", e)
	}
	if e := w.Sync(); e != api.OK {
		t.Fatalf("Sync: %d", e)
	}
}

func wantSave(t *testing.T, s *Slots, payload string, gen uint64, wanted api.Errno) {
	t.Helper()
	if g, e := s.Save([]byte(payload)); g != gen || e != wanted {
		t.Errorf("Save = %d, %d; want %d, %d", g, e, gen, wanted)
	}
}

func wantLoad(t *testing.T, s *Slots, payload string, gen uint64) {
	t.Helper()
	if p, g, e := s.Load(); string(p) != payload || g != gen || e != api.OK {
		t.Errorf("Load = %q, %d, %d; want %q, %d", p, g, e, payload, gen)
	}
}

func wantLoadError(t *testing.T, s *Slots, wanted api.Errno) {
	t.Helper()
	if p, g, e := s.Load(); len(p) != 0 || g != 0 || e != wanted {
		t.Errorf("Load = %q, %d, %d; want %d", p, g, e, wanted)
	}
}

func wantFile(t *testing.T, w *world.World, file string, wanted []byte) {
	t.Helper()
	if p, e := w.Read(file, 0, api.MaxFile); !bytes.Equal(p, wanted) || e != api.OK {
		t.Errorf("%s has %x, %d; want %x", file, p, e, wanted)
	}
}

// wantCalls counts the calls that something makes.
func wantCalls(t *testing.T, what string, w *world.World, calls int, do func()) {
	t.Helper()
	w.Plan(nil, -1)
	do()
	if w.Ops() != calls {
		t.Errorf("%s: %d calls, want %d", what, w.Ops(), calls)
	}
}

// planned makes the call of that number fail, or the power go off at it, and tells the error that it then answers.
func planned(w *world.World, at int, stops bool) api.Errno {
	if stops {
		w.Plan(nil, at)
		return api.ErrCrash
	}
	w.Plan([]int{at}, -1)
	return api.ErrIO
}

// mended puts the power on again, and keeps all that waits.
func mended(w *world.World) { w.Crash(math.MaxInt, 0) }

var tooLong = strings.Repeat("p", api.MaxPayload+1)

func TestExampleSlots(t *testing.T) {
	w := world.New()
	s := open(t, w)
	wantSave(t, s, "a", 1, api.OK)
	wantSave(t, s, "b", 2, api.OK)
	wantLoad(t, s, "b", 2)
	w.Crash(0, 0)
	wantLoad(t, s, "b", 2)
}

// P5.2.

func TestOpen(t *testing.T) {
	w := world.New()
	for _, name := range []string{"k", strings.Repeat("n", api.MaxName-2), "\x00", "a.0"} {
		w.Plan([]int{0}, 0)
		s, e := Open(w, name)
		if s == nil || e != api.OK {
			t.Fatalf("Open(%q) = %v, %d", name, s, e)
		}
		if w.Ops() != 0 {
			t.Errorf("Open made %d calls", w.Ops())
		}
		mended(w)
		wantSave(t, s, "a", 1, api.OK)
		wantSave(t, s, "b", 2, api.OK)
		if !slices.Contains(w.Names(), name+".0") || !slices.Contains(w.Names(), name+".1") {
			t.Errorf("the files are %q", w.Names())
		}
	}
	if len(w.Names()) != 8 {
		t.Errorf("the files are %q", w.Names())
	}
}

func TestOpenRefuses(t *testing.T) {
	w := world.New()
	for _, c := range []struct {
		world  *world.World
		name   string
		wanted api.Errno
	}{
		{w, "", api.ErrArg},
		{w, strings.Repeat("n", api.MaxName-1), api.ErrArg},
		{w, strings.Repeat("n", 1000), api.ErrArg},
		{nil, "", api.ErrArg},
		{nil, strings.Repeat("n", api.MaxName-1), api.ErrArg},
		{nil, "k", api.ErrNone},
	} {
		if s, e := Open(c.world, c.name); s != nil || e != c.wanted {
			t.Errorf("Open(%q) = %v, %d; want %d", c.name, s, e, c.wanted)
		}
	}
}

// P5.3.

func TestLoadTellsTheGreaterGeneration(t *testing.T) {
	const last = math.MaxUint64
	broken := record(9, []byte("x"))
	broken[len(broken)-1] ^= 1
	long := strings.Repeat("l", api.MaxPayload)
	for i, c := range []struct {
		zero, one []byte // nil: the file isn't there
		payload   string
		gen       uint64
	}{
		{record(1, []byte("a")), nil, "a", 1},
		{nil, record(1, []byte("a")), "a", 1},
		{record(1, []byte("a")), record(2, []byte("b")), "b", 2},
		{record(3, []byte("a")), record(2, []byte("b")), "a", 3},
		{record(7, []byte("a")), record(7, []byte("b")), "a", 7},
		{record(0, []byte("a")), record(0, []byte("b")), "a", 0},
		{record(0, []byte("a")), nil, "a", 0},
		{nil, record(0, []byte("b")), "b", 0},
		{broken, record(0, []byte("b")), "b", 0},
		{record(1, []byte("a")), broken, "a", 1},
		{broken, record(2, []byte("b")), "b", 2},
		{[]byte{}, record(2, []byte("b")), "b", 2},
		{record(last, []byte("a")), record(0, []byte("b")), "a", last},
		{record(last-1, []byte("a")), record(last, []byte("b")), "b", last},
		{record(1<<63, []byte("a")), record(1<<63-1, []byte("b")), "a", 1 << 63},
		{record(1<<32, []byte("a")), record(1, []byte("b")), "a", 1 << 32},
		{record(1, nil), nil, "", 1},
		{record(2, nil), record(1, []byte("b")), "", 2},
		{record(2, []byte(long)), record(1, []byte("b")), long, 2},
		{append(record(2, []byte(long)), "more"...), nil, long, 2},
		{record(1, []byte("b")), append(record(2, []byte("a")), filled(9000, 1)...), "a", 2},
		{record(9, []byte(long+"l")), record(2, []byte("b")), "b", 2},
	} {
		t.Run(fmt.Sprint(i), func(t *testing.T) {
			w := twoFiles(t, c.zero, c.one)
			s := open(t, w)
			wantCalls(t, "Load", w, 2, func() { wantLoad(t, s, c.payload, c.gen) })
			wantLoad(t, s, c.payload, c.gen)
		})
	}
}

// twoFiles tells a world with the files of slots, but those that are nil.
func twoFiles(t *testing.T, zero, one []byte) *world.World {
	t.Helper()
	w := world.New()
	if zero != nil {
		lay(t, w, "k.0", zero)
	}
	if one != nil {
		lay(t, w, "k.1", one)
	}
	return w
}

func TestLoadOfNoSlots(t *testing.T) {
	broken := record(9, []byte("x"))
	broken[len(broken)-1] ^= 1
	for _, c := range [][2][]byte{{nil, nil}, {broken, nil}, {nil, broken}, {broken, broken}, {{}, {}}, {broken[:10], []byte("SLOT")}} {
		w := twoFiles(t, c[0], c[1])
		lay(t, w, "k", record(1, []byte("another file")))
		s := open(t, w)
		wantCalls(t, "Load", w, 2, func() { wantLoadError(t, s, api.ErrNone) })
	}
}

func TestLoadEndsAtTheFirstError(t *testing.T) {
	for at := range 2 {
		for _, stops := range []bool{false, true} {
			// One file alone is there: it is told only where both were read.
			for _, c := range [][2][]byte{{nil, nil}, {record(1, []byte("a")), nil}, {nil, record(1, []byte("a"))}} {
				w := twoFiles(t, c[0], c[1])
				s := open(t, w)
				wanted := planned(w, at, stops)
				wantLoadError(t, s, wanted)
				if w.Ops() != at+1 {
					t.Errorf("an error at %d: %d calls", at, w.Ops())
				}
			}
		}
	}
}

func TestLoadReadsTheFirstFileFirst(t *testing.T) {
	w := twoFiles(t, record(1, []byte("a")), record(2, []byte("b")))
	s := open(t, w)
	w.Plan([]int{0, 1}, -1)
	wantLoadError(t, s, api.ErrIO)
	// The power goes off at the second call: of two errors the first one is told.
	w.Plan([]int{0}, 1)
	wantLoadError(t, s, api.ErrIO)
	if w.Off() {
		t.Error("the second file was read behind an error")
	}
	w.Plan([]int{1}, 0)
	wantLoadError(t, s, api.ErrCrash)
}

func TestLoadChangesNothing(t *testing.T) {
	w := twoFiles(t, record(1, []byte("a")), record(2, []byte("b")))
	s := open(t, w)
	wantLoad(t, s, "b", 2)
	if w.Waits() != 0 || len(w.Names()) != 2 {
		t.Errorf("%d changes wait, files %q", w.Waits(), w.Names())
	}
	wantFile(t, w, "k.0", record(1, []byte("a")))
	wantFile(t, w, "k.1", record(2, []byte("b")))
}

// P5.4.

func TestSaveTakesTheFilesInTurn(t *testing.T) {
	w := world.New()
	s := open(t, w)
	for gen := uint64(1); gen <= 9; gen++ {
		// Each file is as long as the longest that was written, and what stands behind isn't looked at.
		payload := strings.Repeat("p", int(gen))
		wantSave(t, s, payload, gen, api.OK)
		wantFile(t, w, fmt.Sprintf("k.%d", (gen-1)%2), record(gen, []byte(payload)))
		wantLoad(t, s, payload, gen)
	}
	if names := w.Names(); !slices.Equal(names, []string{"k.0", "k.1"}) {
		t.Errorf("the files are %q", names)
	}
}

func TestSaveWritesFromZeroOn(t *testing.T) {
	w := twoFiles(t, filled(9000, 1), record(4, []byte("b")))
	s := open(t, w)
	wantSave(t, s, "a", 5, api.OK)
	wantFile(t, w, "k.0", append(record(5, []byte("a")), filled(9000, 1)[21:]...))
	wantLoad(t, s, "a", 5)
}

func TestSaveGoesByWhatStands(t *testing.T) {
	const last = math.MaxUint64
	broken := record(9, []byte("x"))
	broken[5] ^= 1
	for i, c := range []struct {
		zero, one []byte
		into      string
		gen       uint64
	}{
		{nil, nil, "k.0", 1},
		{broken, nil, "k.0", 1},
		{nil, broken, "k.0", 1},
		{broken, broken, "k.0", 1},
		{record(4, []byte("a")), nil, "k.1", 5},
		{nil, record(4, []byte("b")), "k.0", 5},
		{record(4, []byte("a")), record(5, []byte("b")), "k.0", 6},
		{record(5, []byte("a")), record(4, []byte("b")), "k.1", 6},
		{record(5, []byte("a")), record(5, []byte("b")), "k.1", 6},
		{record(0, []byte("a")), nil, "k.1", 1},
		{nil, record(0, []byte("b")), "k.0", 1},
		{broken, record(4, []byte("b")), "k.0", 5},
		{record(4, []byte("a")), broken, "k.1", 5},
		{record(last, []byte("a")), record(3, []byte("b")), "k.1", 0},
		{record(3, []byte("a")), record(last, []byte("b")), "k.0", 0},
	} {
		for _, loads := range []bool{false, true} {
			t.Run(fmt.Sprint(i, loads), func(t *testing.T) {
				w := twoFiles(t, c.zero, c.one)
				s := open(t, w)
				if loads {
					s.Load()
				}
				payload := strings.Repeat("q", 30)
				wantSave(t, s, payload, c.gen, api.OK)
				wantFile(t, w, c.into, record(c.gen, []byte(payload)))
				if w.Waits() != 0 {
					t.Errorf("%d changes wait", w.Waits())
				}
			})
		}
	}
}

func TestSaveGoesOnBehindTheLastGeneration(t *testing.T) {
	w := twoFiles(t, record(math.MaxUint64, []byte("a")), nil)
	s := open(t, w)
	wantSave(t, s, "b", 0, api.OK)
	wantSave(t, s, "c", 1, api.OK)
	wantFile(t, w, "k.0", record(1, []byte("c")))
	wantFile(t, w, "k.1", record(0, []byte("b")))
}

func TestSaveLoadsOnlyWhatIsNotKnown(t *testing.T) {
	const short, whole = 2, 4
	save := func(s *Slots) { s.Save([]byte("x")) }
	load := func(s *Slots) { s.Load() }
	long := func(s *Slots) { s.Save([]byte(tooLong)) }
	// failing does something while each call fails.
	failing := func(do func(*Slots)) func(*Slots) {
		return func(s *Slots) {
			s.world.Plan([]int{0, 1, 2, 3}, -1)
			do(s)
			s.world.Plan(nil, -1)
		}
	}
	list := func(l ...func(*Slots)) []func(*Slots) { return l }
	for i, c := range []struct {
		ahead []func(*Slots)
		calls int
	}{
		{nil, whole},
		{list(load), short},
		{list(save), short},
		{list(save, save), short},
		{list(save, load), short},
		{list(load, save), short},
		{list(load, load), short},
		{list(failing(load)), whole},
		{list(load, failing(load)), whole},
		{list(save, failing(load)), whole},
		{list(failing(load), load), short},
		{list(failing(save)), whole},
		{list(load, failing(save)), whole},
		{list(save, failing(save)), whole},
		{list(save, failing(save), save), short},
		{list(save, failing(save), load), short},
		{list(save, failing(save), failing(load)), whole},
		// A payload that is refused ahead of all calls leaves what is known.
		{list(long), whole},
		{list(load, long), short},
		{list(save, long), short},
	} {
		w := world.New()
		s := open(t, w)
		for _, do := range c.ahead {
			do(s)
		}
		wantCalls(t, fmt.Sprint("row ", i), w, c.calls, func() {
			if _, e := s.Save([]byte("y")); e != api.OK {
				t.Errorf("row %d: %d", i, e)
			}
		})
	}
}

func TestSaveGoesByWhatIsKnown(t *testing.T) {
	w := world.New()
	s := open(t, w)
	wantSave(t, s, "a", 1, api.OK)
	lay(t, w, "k.0", record(70, []byte("other")))
	wantSave(t, s, "b", 2, api.OK)
	wantFile(t, w, "k.1", record(2, []byte("b")))
	wantLoad(t, s, "other", 70)
	wantSave(t, s, "c", 71, api.OK)
	wantFile(t, w, "k.1", record(71, []byte("c")))
}

// The calls of a Save that loads are: two of Load, the Write, the Sync.
func TestSaveEndsAtTheFirstError(t *testing.T) {
	for at := range 4 {
		for _, stops := range []bool{false, true} {
			w := twoFiles(t, record(4, []byte("a")), record(5, []byte("b")))
			s := open(t, w)
			wanted := planned(w, at, stops)
			wantSave(t, s, "c", 0, wanted)
			if w.Ops() != at+1 {
				t.Errorf("an error at %d: %d calls", at, w.Ops())
			}
			// Only the Write changes anything.
			if waits := w.Waits(); waits != at/3 {
				t.Errorf("an error at %d: %d changes wait", at, waits)
			}
			w.Crash(0, 0)
			wantLoad(t, s, "b", 5)
		}
	}
}

func TestSaveOfWhatIsKnownEndsAtTheFirstError(t *testing.T) {
	for at := range 2 {
		for _, stops := range []bool{false, true} {
			w := world.New()
			s := open(t, w)
			wantSave(t, s, "a", 1, api.OK)
			wanted := planned(w, at, stops)
			wantSave(t, s, "b", 0, wanted)
			if w.Ops() != at+1 || w.Waits() != at {
				t.Errorf("an error at %d: %d calls, %d changes wait", at, w.Ops(), w.Waits())
			}
			mended(w)
			// What waited was kept: it is what stands now.
			wantSave(t, s, "c", uint64(2+at), api.OK)
			wantLoad(t, s, "c", uint64(2+at))
		}
	}
}

func TestSaveTooLong(t *testing.T) {
	w := world.New()
	s := open(t, w)
	wantCalls(t, "Save", w, 0, func() { wantSave(t, s, tooLong, 0, api.ErrLong) })
	planned(w, 0, true)
	wantSave(t, s, tooLong, 0, api.ErrLong)
	if w.Off() {
		t.Error("a call was made")
	}
	w.Plan(nil, -1)
	wantSave(t, s, tooLong[1:], 1, api.OK)
	wantLoad(t, s, tooLong[1:], 1)
	wantSave(t, s, "", 2, api.OK)
	wantLoad(t, s, "", 2)
	w.Crash(0, 0)
	wantLoad(t, s, "", 2)
}

// Nil slots, and those that Open hasn't made.

func TestNilSlots(t *testing.T) {
	var s *Slots
	wantLoadError(t, s, api.ErrNone)
	wantSave(t, s, "", 0, api.ErrNone)
	wantSave(t, s, tooLong[1:], 0, api.ErrNone)
	wantSave(t, s, tooLong, 0, api.ErrLong)
}

func TestSlotsNotOpened(t *testing.T) {
	var s Slots
	s.Load()
	s.Save(nil)
	s.Save([]byte("a"))
	w := world.New()
	twin := *open(t, w)
	twin.Save([]byte("a"))
	twin.Load()
}

// The rules on memory.

func TestMemoryOfSlots(t *testing.T) {
	w := world.New()
	s := open(t, w)
	room := filled(40, 1)
	own := bytes.Clone(room)
	s.Save(room[:20])
	if !bytes.Equal(room, own) {
		t.Errorf("Save has changed its argument: %x", room)
	}
	spoil(room)
	first, _, _ := s.Load()
	second, _, _ := s.Load()
	spoil(first)
	if !bytes.Equal(second, own[:20]) {
		t.Errorf("answers share memory: %x", second)
	}
	wantLoad(t, s, string(own[:20]), 1)
}
