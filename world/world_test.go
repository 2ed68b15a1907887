package world

import (
	"bytes"
	"math"
	"slices"
	"strings"
	"testing"

	"pallet/api"
)

var (
	longest = strings.Repeat("n", api.MaxName)
	tooLong = strings.Repeat("n", api.MaxName+1)
)

func must(t *testing.T, what string, e api.Errno) {
	t.Helper()
	if e != api.OK {
		t.Fatalf("%s: %d", what, e)
	}
}

func want(t *testing.T, what string, e, wanted api.Errno) {
	t.Helper()
	if e != wanted {
		t.Errorf("%s: %d, want %d", what, e, wanted)
	}
}

// bytesOf tells a file's bytes, by one call that is counted.
func bytesOf(t *testing.T, w *World, file string) string {
	t.Helper()
	p, e := w.Read(file, 0, math.MaxInt)
	must(t, "Read of "+file, e)
	return string(p)
}

func wantNames(t *testing.T, w *World, names ...string) {
	t.Helper()
	if got := w.Names(); !slices.Equal(got, names) {
		t.Errorf("Names = %q, want %q", got, names)
	}
}

// countOf tells how many calls one is that answers so: refused arguments are none.
func countOf(e api.Errno) int {
	if e == api.ErrArg || e == api.ErrLong {
		return 0
	}
	return 1
}

// The chapter's examples.

func TestExampleGap(t *testing.T) {
	w := New()
	must(t, "Write", w.Write("a", 2, []byte("xy")))
	if p, e := w.Read("a", 0, 9); string(p) != "\x00\x00xy" || e != api.OK {
		t.Errorf("Read = %q, %d", p, e)
	}
	w.Crash(0, 1)
	if p, e := w.Read("a", 0, 9); string(p) != "\x00\x00x" || e != api.OK {
		t.Errorf("Read behind the crash = %q, %d", p, e)
	}
	if w.Waits() != 0 {
		t.Errorf("Waits = %d", w.Waits())
	}
}

func TestExampleRename(t *testing.T) {
	for keep, name := range []string{"a", "b"} {
		w := New()
		must(t, "Write", w.Write("a", 0, []byte("x")))
		must(t, "Sync", w.Sync())
		must(t, "Rename", w.Rename("a", "b"))
		w.Crash(keep, 0)
		wantNames(t, w, name)
		if got := bytesOf(t, w, name); got != "x" {
			t.Errorf("bytes of %s = %q", name, got)
		}
	}
}

func TestExamplePlan(t *testing.T) {
	w := New()
	w.Plan([]int{1}, 2)
	want(t, "call 0", w.Write("a", 0, []byte("x")), api.OK)
	want(t, "call 1", w.Write("a", 0, []byte("y")), api.ErrIO)
	want(t, "call 2", w.Write("a", 0, []byte("z")), api.ErrCrash)
	p, e := w.Read("a", 0, 1)
	want(t, "a call with the power off", e, api.ErrCrash)
	if len(p) != 0 {
		t.Errorf("bytes beside an error: %q", p)
	}
	if w.Ops() != 3 || !w.Off() || w.Waits() != 1 {
		t.Errorf("Ops %d, Off %v, Waits %d", w.Ops(), w.Off(), w.Waits())
	}
}

// P3.1: Write

func TestWriteLays(t *testing.T) {
	for _, c := range []struct {
		before string
		off    int
		p      string
		after  string
	}{
		{"", 0, "abc", "abc"},
		{"abcdef", 0, "xy", "xycdef"},
		{"abcdef", 2, "xy", "abxyef"},
		{"abcdef", 4, "xy", "abcdxy"},
		{"abcdef", 5, "xy", "abcdexy"},
		{"abcdef", 6, "xy", "abcdefxy"},
		{"abcdef", 8, "xy", "abcdef\x00\x00xy"},
		{"abcdef", 0, "uvwxyz12", "uvwxyz12"},
		{"abcdef", 3, "", "abcdef"},
		{"abcdef", 6, "", "abcdef"},
		{"abcdef", 8, "", "abcdef\x00\x00"},
		{"", 0, "", ""},
		{"", 3, "", "\x00\x00\x00"},
	} {
		w := New()
		must(t, "Write", w.Write("f", 0, []byte(c.before)))
		want(t, "Write", w.Write("f", c.off, []byte(c.p)), api.OK)
		if got := bytesOf(t, w, "f"); got != c.after {
			t.Errorf("%q with %q from %d on = %q, want %q", c.before, c.p, c.off, got, c.after)
		}
		if w.Size("f") != len(c.after) {
			t.Errorf("Size = %d, want %d", w.Size("f"), len(c.after))
		}
		must(t, "Sync", w.Sync())
		w.Crash(0, 0)
		if got := bytesOf(t, w, "f"); got != c.after {
			t.Errorf("durable: %q with %q from %d on = %q, want %q", c.before, c.p, c.off, got, c.after)
		}
	}
}

func TestWriteOfNothingMakesTheFile(t *testing.T) {
	w := New()
	must(t, "Write", w.Write("f", 0, nil))
	wantNames(t, w, "f")
	if p, e := w.Read("f", 0, 1); len(p) != 0 || e != api.OK {
		t.Errorf("Read = %q, %d", p, e)
	}
	if w.Waits() != 1 {
		t.Errorf("Waits = %d", w.Waits())
	}
}

// A file that has shrunk, by Remove or Rename, has none of its old bytes in a later gap.
func TestGapIsNought(t *testing.T) {
	w := New()
	must(t, "Write", w.Write("f", 0, []byte("abcdefgh")))
	must(t, "Sync", w.Sync())
	must(t, "Remove", w.Remove("f"))
	must(t, "Write", w.Write("f", 4, []byte("x")))
	if got := bytesOf(t, w, "f"); got != "\x00\x00\x00\x00x" {
		t.Errorf("seen: %q", got)
	}
	must(t, "Sync", w.Sync())
	w.Crash(0, 0)
	if got := bytesOf(t, w, "f"); got != "\x00\x00\x00\x00x" {
		t.Errorf("durable: %q", got)
	}
}

func TestWriteErrors(t *testing.T) {
	big := make([]byte, api.MaxFile+1)
	for _, c := range []struct {
		file string
		off  int
		p    []byte
		e    api.Errno
	}{
		{longest, 0, nil, api.OK},
		{"f", 0, big[:api.MaxFile], api.OK},
		{"f", 1, big[:api.MaxFile-1], api.OK},
		{"f", api.MaxFile - 1, big[:1], api.OK},
		{"f", api.MaxFile, nil, api.OK},
		{"\x00\xff \n", 0, nil, api.OK},
		{"", 0, nil, api.ErrArg},
		{tooLong, 0, nil, api.ErrArg},
		{"f", -1, nil, api.ErrArg},
		{"f", math.MinInt, big, api.ErrArg},
		{"", math.MaxInt, big, api.ErrArg},
		{tooLong, api.MaxFile, big, api.ErrArg},
		{"f", 0, big, api.ErrLong},
		{"f", 1, big[:api.MaxFile], api.ErrLong},
		{"f", api.MaxFile, big[:1], api.ErrLong},
		{"f", api.MaxFile + 1, nil, api.ErrLong},
		{"f", math.MaxInt, nil, api.ErrLong},
		{"f", math.MaxInt, big[:1], api.ErrLong},
		{"f", math.MaxInt - 5, big[:10], api.ErrLong},
	} {
		w := New()
		want(t, "Write", w.Write(c.file, c.off, c.p), c.e)
		if c.e == api.OK {
			if w.Size(c.file) != c.off+len(c.p) || w.Ops() != 1 || w.Waits() != 1 {
				t.Errorf("Write(%q, %d, %d bytes): Size %d, Ops %d, Waits %d", c.file, c.off, len(c.p), w.Size(c.file), w.Ops(), w.Waits())
			}
			continue
		}
		if len(w.Names()) != 0 || w.Ops() != 0 || w.Waits() != 0 {
			t.Errorf("refused Write(%q, %d, %d bytes): Names %q, Ops %d, Waits %d", c.file, c.off, len(c.p), w.Names(), w.Ops(), w.Waits())
		}
		w.Plan(nil, 0)
		want(t, "Write ahead of the power", w.Write(c.file, c.off, c.p), c.e)
		if w.Off() {
			t.Errorf("a refused Write put the power off")
		}
		want(t, "Sync at which the power goes off", w.Sync(), api.ErrCrash)
		want(t, "Write with the power off", w.Write(c.file, c.off, c.p), c.e)
		var none *World
		want(t, "Write of no world", none.Write(c.file, c.off, c.p), c.e)
	}
}

// P3.1: Read

func TestRead(t *testing.T) {
	w := New()
	must(t, "Write", w.Write("f", 0, []byte("abcdef")))
	must(t, "Write", w.Write(longest, 0, []byte("x")))
	for _, c := range []struct {
		file   string
		off, n int
		p      string
		e      api.Errno
	}{
		{"f", 0, 6, "abcdef", api.OK},
		{"f", 0, 3, "abc", api.OK},
		{"f", 2, 2, "cd", api.OK},
		{"f", 4, 2, "ef", api.OK},
		{"f", 4, 3, "ef", api.OK},
		{"f", 5, math.MaxInt, "f", api.OK},
		{"f", 0, 0, "", api.OK},
		{"f", 6, 1, "", api.OK},
		{"f", 7, 1, "", api.OK},
		{"f", math.MaxInt, math.MaxInt, "", api.OK},
		{longest, 0, 1, "x", api.OK},
		{"", 0, 1, "", api.ErrArg},
		{tooLong, 0, 1, "", api.ErrArg},
		{"f", -1, 1, "", api.ErrArg},
		{"f", 0, -1, "", api.ErrArg},
		{"f", math.MinInt, math.MinInt, "", api.ErrArg},
		{"g", -1, 1, "", api.ErrArg},
		{"g", 0, 1, "", api.ErrNone},
		{"g", 0, 0, "", api.ErrNone},
		{"F", 0, 1, "", api.ErrNone},
	} {
		ops := w.Ops()
		p, e := w.Read(c.file, c.off, c.n)
		if string(p) != c.p || e != c.e {
			t.Errorf("Read(%q, %d, %d) = %q, %d; want %q, %d", c.file, c.off, c.n, p, e, c.p, c.e)
		}
		if w.Ops()-ops != countOf(c.e) || w.Waits() != 2 {
			t.Errorf("Read(%q, %d, %d): counted %d, Waits %d", c.file, c.off, c.n, w.Ops()-ops, w.Waits())
		}
	}
}

// P3.1: Rename and Remove

func TestRename(t *testing.T) {
	w := New()
	must(t, "Write", w.Write("a", 0, []byte("one")))
	must(t, "Write", w.Write("b", 0, []byte("other")))
	must(t, "Rename", w.Rename("a", "c"))
	wantNames(t, w, "b", "c")
	must(t, "Rename", w.Rename("c", "b"))
	wantNames(t, w, "b")
	if got := bytesOf(t, w, "b"); got != "one" {
		t.Errorf("bytes = %q", got)
	}
	if w.Size("a") != -1 || w.Size("c") != -1 || w.Waits() != 4 {
		t.Errorf("Size %d, %d, Waits %d", w.Size("a"), w.Size("c"), w.Waits())
	}
	// The old name is free: a new file has none of the bytes.
	must(t, "Write", w.Write("a", 1, []byte("x")))
	if a, b := bytesOf(t, w, "a"), bytesOf(t, w, "b"); a != "\x00x" || b != "one" {
		t.Errorf("bytes = %q, %q", a, b)
	}
	must(t, "Rename", w.Rename("b", longest))
	must(t, "Rename", w.Rename(longest, "d"))
	wantNames(t, w, "a", "d")
}

func TestRenameToItsOwnName(t *testing.T) {
	w := New()
	must(t, "Write", w.Write("a", 0, []byte("one")))
	must(t, "Rename", w.Rename("a", "a"))
	if got := bytesOf(t, w, "a"); got != "one" {
		t.Errorf("seen: %q", got)
	}
	must(t, "Sync", w.Sync())
	w.Crash(0, 0)
	if got := bytesOf(t, w, "a"); got != "one" {
		t.Errorf("durable: %q", got)
	}
	want(t, "Rename of none", w.Rename("b", "b"), api.ErrNone)
}

func TestRemove(t *testing.T) {
	w := New()
	must(t, "Write", w.Write("a", 0, []byte("one")))
	must(t, "Write", w.Write("b", 0, []byte("two")))
	must(t, "Sync", w.Sync())
	must(t, "Remove", w.Remove("a"))
	wantNames(t, w, "b")
	_, e := w.Read("a", 0, 1)
	want(t, "Read", e, api.ErrNone)
	want(t, "Remove again", w.Remove("a"), api.ErrNone)
	want(t, "Rename", w.Rename("a", "b"), api.ErrNone)
	if w.Waits() != 1 || w.Ops() != 7 {
		t.Errorf("Waits %d, Ops %d", w.Waits(), w.Ops())
	}
	w.Crash(0, 0)
	wantNames(t, w, "a", "b")
	must(t, "Remove", w.Remove("a"))
	w.Crash(1, 0)
	wantNames(t, w, "b")
}

func TestRenameAndRemoveErrors(t *testing.T) {
	for _, c := range []struct {
		from, to string
		e        api.Errno
	}{
		{"f", "", api.ErrArg},
		{"", "f", api.ErrArg},
		{"f", tooLong, api.ErrArg},
		{tooLong, "f", api.ErrArg},
		{"g", "", api.ErrArg},
		{"g", "f", api.ErrNone},
		{longest, longest, api.ErrNone},
	} {
		w := New()
		must(t, "Write", w.Write("f", 0, []byte("x")))
		w.Plan(nil, -1)
		want(t, "Rename", w.Rename(c.from, c.to), c.e)
		wantNames(t, w, "f")
		if w.Ops() != countOf(c.e) || w.Waits() != 1 {
			t.Errorf("Rename(%q, %q): Ops %d, Waits %d", c.from, c.to, w.Ops(), w.Waits())
		}
	}
	for _, c := range []struct {
		file string
		e    api.Errno
	}{
		{"", api.ErrArg}, {tooLong, api.ErrArg}, {"g", api.ErrNone}, {longest, api.ErrNone},
	} {
		w := New()
		must(t, "Write", w.Write("f", 0, []byte("x")))
		w.Plan(nil, -1)
		want(t, "Remove", w.Remove(c.file), c.e)
		wantNames(t, w, "f")
		if w.Ops() != countOf(c.e) || w.Waits() != 1 {
			t.Errorf("Remove(%q): Ops %d, Waits %d", c.file, w.Ops(), w.Waits())
		}
	}
}

// P3.2

func TestSync(t *testing.T) {
	w := New()
	must(t, "Sync of nothing", w.Sync())
	must(t, "Write", w.Write("a", 0, []byte("abc")))
	must(t, "Write", w.Write("a", 1, []byte("x")))
	must(t, "Rename", w.Rename("a", "b"))
	must(t, "Write", w.Write("a", 0, []byte("new")))
	must(t, "Write", w.Write("c", 0, []byte("gone")))
	must(t, "Remove", w.Remove("c"))
	if w.Waits() != 6 {
		t.Errorf("Waits = %d", w.Waits())
	}
	must(t, "Sync", w.Sync())
	if w.Waits() != 0 || w.Ops() != 8 {
		t.Errorf("Waits %d, Ops %d", w.Waits(), w.Ops())
	}
	must(t, "Write", w.Write("b", 0, []byte("lost")))
	w.Crash(0, 0)
	wantNames(t, w, "a", "b")
	if a, b := bytesOf(t, w, "a"), bytesOf(t, w, "b"); a != "new" || b != "axc" {
		t.Errorf("bytes = %q, %q", a, b)
	}
}

func TestSyncThatFails(t *testing.T) {
	for _, c := range []struct {
		fails []int
		stop  int
		e     api.Errno
	}{{[]int{0}, -1, api.ErrIO}, {nil, 0, api.ErrCrash}} {
		w := New()
		must(t, "Write", w.Write("a", 0, []byte("x")))
		w.Plan(c.fails, c.stop)
		want(t, "Sync", w.Sync(), c.e)
		if w.Waits() != 1 || w.Ops() != 1 {
			t.Errorf("Waits %d, Ops %d", w.Waits(), w.Ops())
		}
		w.Crash(0, 0)
		wantNames(t, w)
	}
}

// P3.3

func TestNamesInTheOrderOfBytes(t *testing.T) {
	w := New()
	wantNames(t, w)
	for _, name := range []string{"b", "a", "ab", "\xff", "B", "é", "a\x00", longest, "Z"} {
		must(t, "Write", w.Write(name, 0, nil))
	}
	ops := w.Ops()
	for range 20 {
		wantNames(t, w, "B", "Z", "a", "a\x00", "ab", "b", longest, "é", "\xff")
	}
	if w.Ops() != ops {
		t.Errorf("Names was counted")
	}
}

func TestSize(t *testing.T) {
	w := New()
	must(t, "Write", w.Write("a", 3, []byte("x")))
	must(t, "Write", w.Write("b", 0, nil))
	for _, c := range []struct {
		file string
		n    int
	}{{"a", 4}, {"b", 0}, {"c", -1}, {"", -1}, {tooLong, -1}} {
		if n := w.Size(c.file); n != c.n {
			t.Errorf("Size(%q) = %d, want %d", c.file, n, c.n)
		}
	}
	if w.Ops() != 2 {
		t.Errorf("Size was counted")
	}
}

func TestSeenWithThePowerOff(t *testing.T) {
	w := New()
	must(t, "Write", w.Write("a", 0, []byte("x")))
	w.Plan(nil, 0)
	want(t, "Sync", w.Sync(), api.ErrCrash)
	wantNames(t, w, "a")
	if w.Size("a") != 1 || w.Waits() != 1 {
		t.Errorf("Size %d, Waits %d", w.Size("a"), w.Waits())
	}
}

// P3.4

// calls are the five kinds of calls, each on a world that has the file f.
func calls() []func(w *World) api.Errno {
	return []func(w *World) api.Errno{
		func(w *World) api.Errno { return w.Write("f", 0, []byte("new")) },
		func(w *World) api.Errno { _, e := w.Read("f", 0, 1); return e },
		func(w *World) api.Errno { return w.Rename("f", "g") },
		func(w *World) api.Errno { return w.Remove("f") },
		func(w *World) api.Errno { return w.Sync() },
	}
}

// callsOfNone are the calls that ask for a file that isn't there.
func callsOfNone() []func(w *World) api.Errno {
	return []func(w *World) api.Errno{
		func(w *World) api.Errno { _, e := w.Read("none", 0, 1); return e },
		func(w *World) api.Errno { return w.Rename("none", "g") },
		func(w *World) api.Errno { return w.Remove("none") },
	}
}

func withFile(t *testing.T) *World {
	t.Helper()
	w := New()
	must(t, "Write", w.Write("f", 0, []byte("old")))
	return w
}

func wantUntouched(t *testing.T, w *World) {
	t.Helper()
	wantNames(t, w, "f")
	if w.Waits() != 1 || w.Size("f") != 3 {
		t.Errorf("Waits %d, Size %d", w.Waits(), w.Size("f"))
	}
	w.Crash(math.MaxInt, 0)
	if got := bytesOf(t, w, "f"); got != "old" {
		t.Errorf("bytes = %q", got)
	}
}

func TestEachCallFails(t *testing.T) {
	for i, call := range append(calls(), callsOfNone()...) {
		w := withFile(t)
		w.Plan([]int{0}, -1)
		want(t, "call", call(w), api.ErrIO)
		if w.Ops() != 1 || w.Off() {
			t.Errorf("call %d: Ops %d, Off %v", i, w.Ops(), w.Off())
		}
		wantUntouched(t, w)
	}
}

func TestPowerGoesOffAtEachCall(t *testing.T) {
	for i, call := range append(calls(), callsOfNone()...) {
		for _, fails := range [][]int{nil, {0}, {0, 0, 1}} {
			w := withFile(t)
			w.Plan(fails, 0)
			want(t, "call", call(w), api.ErrCrash)
			if w.Ops() != 1 || !w.Off() {
				t.Errorf("call %d: Ops %d, Off %v", i, w.Ops(), w.Off())
			}
			want(t, "call with the power off", call(w), api.ErrCrash)
			if w.Ops() != 1 || !w.Off() {
				t.Errorf("call %d with the power off: Ops %d, Off %v", i, w.Ops(), w.Off())
			}
			wantUntouched(t, w)
			want(t, "call behind the crash", w.Sync(), api.OK)
		}
	}
}

func TestEachCallIsCounted(t *testing.T) {
	for i, call := range append(calls(), callsOfNone()...) {
		w := withFile(t)
		call(w)
		if w.Ops() != 2 {
			t.Errorf("call %d: Ops %d", i, w.Ops())
		}
	}
}

func TestPlanNumbers(t *testing.T) {
	w := withFile(t)
	w.Plan([]int{5, 2, 2, -1, 3, math.MaxInt, math.MinInt}, 7)
	for i, wanted := range []api.Errno{0, 0, 6, 6, 0, 6, 0, 7, 7} {
		want(t, "call", w.Write("f", i, nil), wanted)
	}
	if w.Ops() != 8 || !w.Off() {
		t.Errorf("Ops %d, Off %v", w.Ops(), w.Off())
	}
}

func TestPlanCountsAnew(t *testing.T) {
	w := withFile(t)
	must(t, "Sync", w.Sync())
	w.Plan([]int{0}, 2)
	if w.Ops() != 0 {
		t.Errorf("Ops = %d", w.Ops())
	}
	want(t, "call 0", w.Sync(), api.ErrIO)
	want(t, "call 1", w.Sync(), api.OK)
	// A new plan takes the place of the old one.
	w.Plan([]int{1}, -5)
	for _, wanted := range []api.Errno{api.OK, api.ErrIO, api.OK, api.OK} {
		want(t, "call", w.Sync(), wanted)
	}
	w.Plan(nil, math.MinInt)
	want(t, "call", w.Sync(), api.OK)
	want(t, "call", w.Sync(), api.OK)
}

func TestPlanLeavesThePower(t *testing.T) {
	w := withFile(t)
	w.Plan(nil, 0)
	want(t, "Sync", w.Sync(), api.ErrCrash)
	w.Plan(nil, -1)
	if !w.Off() || w.Ops() != 0 || w.Waits() != 1 {
		t.Errorf("Off %v, Ops %d, Waits %d", w.Off(), w.Ops(), w.Waits())
	}
	want(t, "Sync", w.Sync(), api.ErrCrash)
	if w.Ops() != 0 {
		t.Errorf("counted with the power off: %d", w.Ops())
	}
}

func TestRefusedArgumentsAreNoCalls(t *testing.T) {
	w := withFile(t)
	w.Plan([]int{0}, 1)
	for range 3 {
		want(t, "Write", w.Write("", 0, nil), api.ErrArg)
		want(t, "Write", w.Write("f", api.MaxFile+1, nil), api.ErrLong)
		_, e := w.Read("f", -1, 0)
		want(t, "Read", e, api.ErrArg)
		want(t, "Rename", w.Rename("f", ""), api.ErrArg)
		want(t, "Remove", w.Remove(""), api.ErrArg)
	}
	if w.Ops() != 0 || w.Off() {
		t.Errorf("Ops %d, Off %v", w.Ops(), w.Off())
	}
	want(t, "Sync", w.Sync(), api.ErrIO)
	want(t, "Sync", w.Sync(), api.ErrCrash)
	want(t, "Write with the power off", w.Write("", 0, nil), api.ErrArg)
	want(t, "Write with the power off", w.Write("f", api.MaxFile+1, nil), api.ErrLong)
	_, e := w.Read("f", 0, -1)
	want(t, "Read with the power off", e, api.ErrArg)
	want(t, "Rename with the power off", w.Rename("", "f"), api.ErrArg)
	want(t, "Remove with the power off", w.Remove(tooLong), api.ErrArg)
}

// P3.5

func TestCrashKeeps(t *testing.T) {
	state := []string{"", "a=abc", "a=abc b=xyz", "b=abc", "", "c=\x00\x00uv"}
	for keep := range 9 {
		w := New()
		must(t, "Write", w.Write("a", 0, []byte("abc")))
		must(t, "Write", w.Write("b", 0, []byte("xyz")))
		must(t, "Rename", w.Rename("a", "b"))
		must(t, "Remove", w.Remove("b"))
		must(t, "Write", w.Write("c", 2, []byte("uv")))
		if w.Waits() != 5 {
			t.Fatalf("Waits = %d", w.Waits())
		}
		w.Crash(keep, 0)
		if got, wanted := told(t, w), state[min(keep, 5)]; got != wanted {
			t.Errorf("Crash(%d, 0): %q, want %q", keep, got, wanted)
		}
		if w.Waits() != 0 || w.Off() {
			t.Errorf("Waits %d, Off %v", w.Waits(), w.Off())
		}
		// What was kept is durable, and what was not is lost for ever.
		w.Crash(9, 9)
		if got, wanted := told(t, w), state[min(keep, 5)]; got != wanted {
			t.Errorf("Crash(%d, 0), Crash: %q, want %q", keep, got, wanted)
		}
	}
}

// told tells all files in one text.
func told(t *testing.T, w *World) string {
	t.Helper()
	var all []string
	for _, name := range w.Names() {
		all = append(all, name+"="+bytesOf(t, w, name))
	}
	return strings.Join(all, " ")
}

func TestCrashCuts(t *testing.T) {
	for _, c := range []struct {
		keep, cut int
		want      string
	}{
		{0, math.MinInt, "a=old"},
		{0, -1, "a=old"},
		{0, 0, "a=old"},
		{0, 1, "a=oxd"},
		{0, 2, "a=oxy"},
		{0, 3, "a=oxyz"},
		{0, 4, "a=oxyz"},
		{0, math.MaxInt, "a=oxyz"},
		{-1, 2, "a=oxy"},
		{math.MinInt, 0, "a=old"},
		{1, 0, "a=oxyz"},
		{1, 1, "a=oxyz\x00\x00u"},
		{1, 2, "a=oxyz\x00\x00uv"},
		{2, 5, "a=oxyz\x00\x00uv"}, // the next one is no Write
		{3, 0, "b=oxyz\x00\x00uv"},
		{3, 5, "b=oxyz\x00\x00uv"}, // no more than the next one is cut
		{4, 0, ""},
		{4, 1, "c=n"},
		{5, 0, "c=new"},
		{6, 0, "c=new"},
		{math.MaxInt, math.MaxInt, "c=new"},
	} {
		w := New()
		must(t, "Write", w.Write("a", 0, []byte("old")))
		must(t, "Sync", w.Sync())
		must(t, "Write", w.Write("a", 1, []byte("xyz")))
		must(t, "Write", w.Write("a", 6, []byte("uv")))
		must(t, "Rename", w.Rename("a", "b"))
		must(t, "Remove", w.Remove("b"))
		must(t, "Write", w.Write("c", 0, []byte("new")))
		w.Crash(c.keep, c.cut)
		if got := told(t, w); got != c.want {
			t.Errorf("Crash(%d, %d): %q, want %q", c.keep, c.cut, got, c.want)
		}
		if w.Waits() != 0 {
			t.Errorf("Crash(%d, %d): Waits %d", c.keep, c.cut, w.Waits())
		}
	}
}

func TestCrashForgetsThePlan(t *testing.T) {
	w := New()
	w.Plan([]int{0, 1, 2, 3}, 1)
	want(t, "Sync", w.Sync(), api.ErrIO)
	w.Crash(0, 0)
	if w.Ops() != 0 || w.Off() {
		t.Errorf("Ops %d, Off %v", w.Ops(), w.Off())
	}
	for range 5 {
		want(t, "Sync", w.Sync(), api.OK)
	}
	if w.Ops() != 5 {
		t.Errorf("Ops = %d", w.Ops())
	}
}

func TestWritesBehindACrashAreNotDurable(t *testing.T) {
	w := New()
	must(t, "Write", w.Write("a", 0, []byte("abc")))
	must(t, "Sync", w.Sync())
	w.Crash(0, 0)
	must(t, "Write", w.Write("a", 1, []byte("x")))
	if got := bytesOf(t, w, "a"); got != "axc" {
		t.Errorf("seen: %q", got)
	}
	w.Crash(0, 0)
	if got := bytesOf(t, w, "a"); got != "abc" {
		t.Errorf("durable: %q", got)
	}
}

// P3.6

func TestNilWorld(t *testing.T) {
	var w *World
	for _, call := range append(calls(), callsOfNone()...) {
		want(t, "call", call(w), api.ErrNone)
	}
	w.Plan([]int{0}, 0)
	w.Crash(1, 1)
	p, e := w.Read("f", 0, 1)
	if len(p) != 0 || e != api.ErrNone {
		t.Errorf("Read = %q, %d", p, e)
	}
	if w.Names() != nil || w.Size("f") != -1 || w.Size("") != -1 || w.Ops() != 0 || w.Waits() != 0 || w.Off() {
		t.Errorf("a nil world: %q, %d, %d, %d, %v", w.Names(), w.Size("f"), w.Ops(), w.Waits(), w.Off())
	}
	want(t, "Write", w.Write("", 0, nil), api.ErrArg)
	want(t, "Write", w.Write("f", api.MaxFile, []byte("x")), api.ErrLong)
	_, e = w.Read("f", -1, 1)
	want(t, "Read", e, api.ErrArg)
	want(t, "Rename", w.Rename("f", ""), api.ErrArg)
	want(t, "Remove", w.Remove(""), api.ErrArg)
}

func TestNewWorld(t *testing.T) {
	w := New()
	if w == nil || len(w.Names()) != 0 || w.Ops() != 0 || w.Waits() != 0 || w.Off() {
		t.Fatalf("New = %v", w)
	}
	for range 3 {
		must(t, "Sync", w.Sync())
	}
	other := New()
	must(t, "Write", w.Write("a", 0, nil))
	if other.Size("a") != -1 {
		t.Errorf("two worlds share files")
	}
}

// Memory.

func TestWhatIsHandedInIsNotKept(t *testing.T) {
	w := New()
	room := []byte("abcXYZ")
	p := room[:3]
	must(t, "Write", w.Write("a", 0, p))
	copy(room, "######")
	must(t, "Write", w.Write("a", 3, []byte("d")))
	if got := bytesOf(t, w, "a"); got != "abcd" {
		t.Errorf("seen: %q", got)
	}
	w.Crash(1, 0)
	if got := bytesOf(t, w, "a"); got != "abc" {
		t.Errorf("durable: %q", got)
	}
	fails := []int{0, 1}
	w.Plan(fails, -1)
	fails[0], fails[1] = 7, 8
	want(t, "call 0", w.Sync(), api.ErrIO)
	want(t, "call 1", w.Sync(), api.ErrIO)
	want(t, "call 2", w.Sync(), api.OK)
}

func TestWhatIsHandedInIsNotChanged(t *testing.T) {
	w := New()
	room := []byte("abcXYZ")
	must(t, "Write", w.Write("a", 0, room[:3]))
	must(t, "Write", w.Write("a", 2, []byte("#####")))
	must(t, "Sync", w.Sync())
	must(t, "Write", w.Write("a", 0, []byte("#####")))
	w.Crash(1, 0)
	if string(room) != "abcXYZ" {
		t.Errorf("an argument became %q", room)
	}
	fails := []int{3, 1, 2, 9}
	w.Plan(fails[:3], 2)
	w.Sync()
	if !slices.Equal(fails, []int{3, 1, 2, 9}) {
		t.Errorf("an argument became %v", fails)
	}
}

func TestAnswersAreNewMemory(t *testing.T) {
	w := New()
	must(t, "Write", w.Write("a", 0, []byte("abcdef")))
	first, _ := w.Read("a", 0, 3)
	second, _ := w.Read("a", 0, 3)
	for _, p := range [][]byte{first[:cap(first)], second[:cap(second)]} {
		for i := range p {
			p[i] = '#'
		}
	}
	if got := bytesOf(t, w, "a"); got != "abcdef" {
		t.Errorf("a world's bytes became %q", got)
	}
	third, _ := w.Read("a", 0, 6)
	must(t, "Write", w.Write("a", 0, []byte("uvwxyz")))
	if string(third) != "abcdef" {
		t.Errorf("an answer became %q", third)
	}
	w.Crash(1, 0)
	if got := bytesOf(t, w, "a"); got != "abcdef" {
		t.Errorf("the durable bytes became %q", got)
	}
	names := w.Names()
	names[0] = "#"
	wantNames(t, w, "a")
	// Spare room of one answer is no room of another.
	x, _ := w.Read("a", 0, 2)
	y, _ := w.Read("a", 2, 2)
	x = append(x, "####"...)
	if string(y) != "cd" || !bytes.Equal(x, []byte("ab####")) {
		t.Errorf("answers share room: %q, %q", x, y)
	}
}
