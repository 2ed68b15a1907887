package shell

import (
	"fmt"
	"slices"
	"strings"
	"testing"

	"pallet/api"
)

// example is a line of the chapter's examples and its answer.
type example struct {
	line  string
	reply Reply
}

func examples() []example {
	return []example{
		{"cmd 0 000000000000", Reply{Text: "2 6 2900"}},
		{"sense", Reply{Text: "power on occurred"}},
		{"cmd 0 000000000000", Reply{Text: "0"}},
		{"cmd 0 0a0000010100 000102030405060708090a0b0c0d0e0f", Reply{Text: "0"}},
		{"cmd 0 080000010100", Reply{Text: "0 000102030405060708090a0b0c0d0e0f"}},
		{"cmd 0 080000400100", Reply{Text: "2 5 2100"}},
		{"crash 0 0", Reply{}},
		{"cmd 0 080000010100", Reply{Text: "2 6 2900"}},
		{"cmd 0 080000010100", Reply{Text: "0 00000000000000000000000000000000"}},
		{"regs", Reply{Text: "0 -1"}},
		{"ops", Reply{Text: "3 0"}},
		{"unit 0 0", Reply{E: api.ErrArg}},
		{"cmd 0 0", Reply{At: 6, E: api.ErrText}},
		{"cmd", Reply{At: 3, E: api.ErrText}},
		{"what", Reply{E: api.ErrName}},
	}
}

// script tells the examples as a text and as its answers.
func script() (string, []Reply) {
	var lines []string
	var replies []Reply
	for _, one := range examples() {
		lines = append(lines, one.line)
		replies = append(replies, one.reply)
	}
	return strings.Join(lines, "\n"), replies
}

func wantExamples(t *testing.T, s *Shell) {
	t.Helper()
	for _, one := range examples() {
		if got := s.Line(one.line); got != one.reply {
			t.Errorf("Line(%q) = %+v; want %+v", one.line, got, one.reply)
		}
	}
}

func TestExamples(t *testing.T) {
	s := New()
	if s == nil {
		t.Fatal("New() = nil")
	}
	wantExamples(t, s)
}

// P23.4: a nil one, a zero one.

// oneOfEach are lines of each command, right and wrong.
var oneOfEach = []string{
	"", " ", "ops", "regs", "sense", "sync", "plan 0 1", "crash 0 0", "unit 4 0", "cmd 0 " + ready,
	"what", "cmd", "cmd x", "ops 0", "unit 0 0", "unit 4 4", "\xff", strings.Repeat("x", 400), strings.Repeat("x", 401), strings.Repeat(" ", 401),
}

func TestNilShell(t *testing.T) {
	var s *Shell
	for range 2 {
		for _, line := range oneOfEach {
			if got := s.Line(line); got != (Reply{}) {
				t.Errorf("Line(%q) of a nil shell = %+v", line, got)
			}
		}
	}
}

func TestZeroShell(t *testing.T) {
	wantExamples(t, &Shell{})
	var one Shell
	wantExamples(t, &one)
	// Each line as the first one: what it tells, and what is told behind it.
	for _, line := range oneOfEach {
		zero, fresh := &Shell{}, New()
		for _, next := range append([]string{line, line}, oneOfEach...) {
			if got, wanted := zero.Line(next), fresh.Line(next); got != wanted {
				t.Errorf("behind %q: Line(%q) = %+v; of a new one %+v", line, next, got, wanted)
			}
		}
	}
	list := make([]Shell, 3)
	for at := range list {
		wantExamples(t, &list[at])
	}
}

// Of copies of used ones P1 holds.
func TestCopies(t *testing.T) {
	for _, first := range oneOfEach {
		s := busy(t)
		twin := *s
		for range 3 {
			s.Line(first)
			for _, line := range oneOfEach {
				twin.Line(line)
				s.Line(line)
			}
			*s = twin
		}
	}
}

// Shells have nothing in common.
func TestShellsAreApart(t *testing.T) {
	a, b := awake(t), awake(t)
	want(t, a, "cmd 0 "+write(0)+" "+block("11"), "0")
	want(t, a, "cmd 0 "+prOut("06", "00")+" "+keys(0, 1, true), "0")
	want(t, a, "cmd 0 "+read(64), "2 5 2100")
	want(t, a, "plan 0 1000", "")
	want(t, b, "sense", "no additional sense information")
	want(t, b, "regs", "0 -1")
	want(t, b, "ops", "2 0")
	want(t, b, "cmd 0 "+read(0), "0 "+block("00"))
	want(t, b, "unit 8 0", "")
	want(t, a, "cmd 0 "+readCapacity, "0 0000003f00000010")
}

// P23.5: Run.

func wantRun(t *testing.T, text string, wanted ...Reply) {
	t.Helper()
	if got := Run(text); !slices.Equal(got, wanted) {
		t.Errorf("Run(%q) = %+v; want %+v", text, got, wanted)
	}
}

func TestRunOfTheExamples(t *testing.T) {
	text, replies := script()
	wantRun(t, text, replies...)
	wantRun(t, text+"\n", replies...)
	wantRun(t, text+"\n\n", append(slices.Clone(replies), Reply{})...)
	wantRun(t, "\n"+text, append([]Reply{{}}, replies...)...)
}

func TestRun(t *testing.T) {
	ops, no := Reply{Text: "0 0"}, Reply{}
	wantRun(t, "")
	wantRun(t, "\n", no)
	wantRun(t, "\n\n\n", no, no, no)
	wantRun(t, " ", no)
	wantRun(t, " \n", no)
	wantRun(t, "\n ", no, no)
	wantRun(t, "ops", ops)
	wantRun(t, "ops\n", ops)
	wantRun(t, "ops\nops", ops, ops)
	wantRun(t, "ops\n\nops\n", ops, no, ops)
	wantRun(t, "\nops", no, ops)
	wantRun(t, "\n\n  ops  \n\n", no, no, ops, no)
	wantRun(t, "sync\nops", no, Reply{Text: "1 0"})
	wantRun(t, "ops\r\nops", Reply{E: api.ErrName}, ops)
	wantRun(t, "ops \r\n", Reply{At: 4, E: api.ErrText})
	wantRun(t, "ops\x00ops\n", Reply{E: api.ErrName})
	wantRun(t, "ops\x0bops\x0c\u2028ops\u0085", Reply{E: api.ErrName})
}

// A fault ends nothing, wherever it stands, and places are those in its line.
func TestRunGoesOn(t *testing.T) {
	long := strings.Repeat("x", 401)
	wantRun(t, "what\nsync\n cmd 0\n"+long+"\nops\n unit 0 0\nplan 0 1\nsync\nsync\nops 7\nops",
		Reply{E: api.ErrName}, Reply{}, Reply{At: 6, E: api.ErrText}, Reply{E: api.ErrLong}, Reply{Text: "1 0"}, Reply{E: api.ErrArg}, Reply{},
		Reply{E: api.ErrIO}, Reply{}, Reply{At: 4, E: api.ErrText}, Reply{Text: "2 0"})
	wantRun(t, "ops\n"+blanks(400)+"\n"+blanks(401)+"\n"+blanks(397)+"ops", Reply{Text: "0 0"}, Reply{}, Reply{E: api.ErrLong}, Reply{Text: "0 0"})
}

// Each Run has a shell of its own.
func TestRunAnew(t *testing.T) {
	for range 3 {
		wantRun(t, "ops\ncmd 0 "+ready+"\nsense\nsync\nops", Reply{Text: "0 0"}, Reply{Text: "2 6 2900"}, Reply{Text: "power on occurred"}, Reply{}, Reply{Text: "3 0"})
	}
}

func TestRunOfManyLines(t *testing.T) {
	const n = 100000
	list := Run(strings.Repeat("sync\n", n) + "ops")
	if len(list) != n+1 || list[n] != (Reply{Text: fmt.Sprintf("%d 0", n)}) {
		t.Errorf("%d replies, the last one %+v", len(list), list[len(list)-1])
	}
	if list := Run(strings.Repeat("\n", n)); len(list) != n {
		t.Errorf("%d replies to %d lines", len(list), n)
	}
}

// The rules on memory: an answer is a list of its own, spare room too.
func TestRunMemory(t *testing.T) {
	text, replies := script()
	first := Run(text)
	second := Run(text)
	first = first[:cap(first)]
	for at := range first {
		first[at] = Reply{"x", 1, 1}
	}
	if !slices.Equal(second, replies) {
		t.Errorf("an answer shares memory with an earlier one: %+v", second)
	}
	wantRun(t, text, replies...)
}
