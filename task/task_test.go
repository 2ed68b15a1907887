package task

import (
	"math"
	"slices"
	"testing"

	"pallet/api"
)

// noNexus has numbers that are no nexus.
func noNexus() []int {
	return []int{-1, -2, api.MaxNexus, api.MaxNexus + 1, 256, 1 << 32, math.MinInt, math.MaxInt}
}

// of tells a task of the nexus 0 that hasn't started.
func of(tag uint32, attr api.Attr) Task { return Task{Tag: tag, Attr: attr} }

func wantEnter(t *testing.T, s *Set, task Task, status api.Status, errno api.Errno) {
	t.Helper()
	if got, e := s.Enter(task); got != status || e != errno {
		t.Errorf("Enter(%v) = %x, %d; want %x, %d", task, got, e, status, errno)
	}
}

// enter makes tasks come in.
func enter(t *testing.T, s *Set, tasks ...Task) {
	t.Helper()
	for _, task := range tasks {
		wantEnter(t, s, task, api.Good, api.OK)
	}
}

func wantOK(t *testing.T, got ...api.Errno) {
	t.Helper()
	wantErrno(t, api.OK, got...)
}

func wantErrno(t *testing.T, wanted api.Errno, got ...api.Errno) {
	t.Helper()
	for i, e := range got {
		if e != wanted {
			t.Errorf("call %d: %d; want %d", i, e, wanted)
		}
	}
}

func wantList(t *testing.T, got []Task, wanted ...Task) {
	t.Helper()
	if !slices.Equal(got, wanted) {
		t.Errorf("tasks %v; want %v", got, wanted)
	}
}

// wantReady holds the tags of the tasks that may start against those wanted.
func wantReady(t *testing.T, s *Set, wanted ...uint32) {
	t.Helper()
	var tags []uint32
	for _, task := range s.Ready() {
		tags = append(tags, task.Tag)
		if task.Started {
			t.Errorf("%v is ready and has started", task)
		}
	}
	if !slices.Equal(tags, wanted) {
		t.Errorf("Ready = %d; want %d", tags, wanted)
	}
}

func wantStands(t *testing.T, s *Set, wanted int) {
	t.Helper()
	if got := s.Stands(); got != wanted {
		t.Errorf("Stands = %d; want %d", got, wanted)
	}
}

// run starts tasks of the nexus 0 and ends them.
func run(t *testing.T, s *Set, tags ...uint32) {
	t.Helper()
	for _, tag := range tags {
		wantOK(t, s.Start(0, tag), s.End(0, tag))
	}
}

// full tells a set of MaxTasks tasks: Simple, of all nexus in turn, each with its number as the tag.
func full(t *testing.T) *Set {
	t.Helper()
	s := New()
	for i := range api.MaxTasks {
		enter(t, s, Task{Nexus: i % api.MaxNexus, Tag: uint32(i)})
	}
	return s
}

// The chapter's examples, and the fifth one of the whole.

func TestFirstExample(t *testing.T) {
	s := New()
	enter(t, s, of(1, api.Simple), of(2, api.Simple), of(3, api.Ordered), of(4, api.Simple))
	wantReady(t, s, 1, 2)
	run(t, s, 1, 2)
	wantReady(t, s, 3)
	enter(t, s, of(5, api.Head))
	wantReady(t, s, 5)
	run(t, s, 5)
	wantReady(t, s, 3)
}

func TestSecondExample(t *testing.T) {
	s := New()
	wantOK(t, s.Establish(0))
	wantEnter(t, s, of(1, api.Simple), api.ACA, api.OK)
	enter(t, s, of(2, api.ForACA))
	wantReady(t, s, 2)
	wantList(t, s.Relieve(), of(2, api.ForACA))
	wantList(t, s.Tasks())
}

func TestExampleOfTheWhole(t *testing.T) {
	s := New()
	enter(t, s, of(1, api.Simple), of(2, api.Ordered), of(3, api.Simple))
	wantReady(t, s, 1)
}

func TestNewSetIsEmpty(t *testing.T) {
	s := New()
	if s == nil {
		t.Fatal("no set")
	}
	wantList(t, s.Tasks())
	wantList(t, s.Ready())
	wantList(t, s.Abort(0, 0))
	wantList(t, s.AbortAll(0))
	wantList(t, s.Relieve())
	wantList(t, s.Clear())
	wantStands(t, s, -1)
	wantErrno(t, api.ErrNone, s.Start(0, 0), s.End(0, 0))
}

// P9.1.

func TestEnterKeepsTheOrderAndDoesntLookAtStarted(t *testing.T) {
	s := New()
	enter(t, s,
		Task{Nexus: 7, Tag: math.MaxUint32, Attr: api.Head, Started: true},
		Task{Nexus: 0, Tag: 0, Attr: api.Ordered},
		Task{Nexus: 3, Tag: 5, Attr: api.Simple, Started: true})
	wantList(t, s.Tasks(),
		Task{Nexus: 7, Tag: math.MaxUint32, Attr: api.Head},
		Task{Nexus: 0, Tag: 0, Attr: api.Ordered},
		Task{Nexus: 3, Tag: 5, Attr: api.Simple})
}

func TestEnterOfWhatIsNoNexus(t *testing.T) {
	s := New()
	for _, nexus := range noNexus() {
		for attr := range api.Attr(6) {
			wantEnter(t, s, Task{Nexus: nexus, Attr: attr}, api.Good, api.ErrArg)
		}
	}
	wantList(t, s.Tasks())
	for nexus := range api.MaxNexus {
		enter(t, s, Task{Nexus: nexus})
	}
}

func TestEnterOfWhatIsNoAttribute(t *testing.T) {
	s := New()
	for attr := range 256 {
		task := Task{Nexus: attr % api.MaxNexus, Tag: uint32(attr), Attr: api.Attr(attr)}
		switch {
		case attr <= 2:
			wantEnter(t, s, task, api.Good, api.OK)
		case attr == 3:
			wantEnter(t, s, task, api.ACA, api.OK)
		default:
			wantEnter(t, s, task, api.Good, api.ErrArg)
		}
	}
	if n := len(s.Tasks()); n != 3 {
		t.Errorf("%d tasks", n)
	}
}

func TestEnterOfATagThatIsThere(t *testing.T) {
	s := New()
	enter(t, s, Task{Nexus: 1, Tag: 5}, Task{Nexus: 2, Tag: 5}, Task{Nexus: 1, Tag: 6})
	for attr := range api.ForACA + 1 {
		wantEnter(t, s, Task{Nexus: 1, Tag: 5, Attr: attr}, api.Good, api.ErrExists)
		wantEnter(t, s, Task{Nexus: 2, Tag: 5, Attr: attr}, api.Good, api.ErrExists)
	}
	wantOK(t, s.Start(1, 5))
	wantEnter(t, s, Task{Nexus: 1, Tag: 5}, api.Good, api.ErrExists)
	wantList(t, s.Tasks(), Task{Nexus: 1, Tag: 5, Started: true}, Task{Nexus: 2, Tag: 5}, Task{Nexus: 1, Tag: 6})
	wantOK(t, s.End(1, 5))
	enter(t, s, Task{Nexus: 1, Tag: 5, Attr: api.Ordered})
	wantList(t, s.Tasks(), Task{Nexus: 2, Tag: 5}, Task{Nexus: 1, Tag: 6}, Task{Nexus: 1, Tag: 5, Attr: api.Ordered})
}

// Which of what applies is told: an argument's error, then a tag that is there, then the allegiance, then that the set is full.
func TestEnterTellsTheFirstThatApplies(t *testing.T) {
	s := full(t)
	wantEnter(t, s, Task{Nexus: 0, Tag: 0, Attr: 4}, api.Good, api.ErrArg)
	wantEnter(t, s, Task{Nexus: 8, Tag: 0, Attr: api.ForACA}, api.Good, api.ErrArg)
	wantEnter(t, s, Task{Nexus: 0, Tag: 0, Attr: api.ForACA}, api.Good, api.ErrExists)
	wantEnter(t, s, Task{Nexus: 0, Tag: 99, Attr: api.ForACA}, api.ACA, api.OK)
	wantEnter(t, s, Task{Nexus: 0, Tag: 99}, api.SetFull, api.OK)
	wantOK(t, s.Establish(1))
	wantEnter(t, s, Task{Nexus: 1, Tag: 1, Attr: 255}, api.Good, api.ErrArg)
	wantEnter(t, s, Task{Nexus: -1, Tag: 1, Attr: api.ForACA}, api.Good, api.ErrArg)
	wantEnter(t, s, Task{Nexus: 0, Tag: 0, Attr: api.Simple}, api.Good, api.ErrExists)
	wantEnter(t, s, Task{Nexus: 1, Tag: 1, Attr: api.ForACA}, api.Good, api.ErrExists)
	wantEnter(t, s, Task{Nexus: 0, Tag: 99, Attr: api.ForACA}, api.ACA, api.OK)
	wantEnter(t, s, Task{Nexus: 1, Tag: 99, Attr: api.Simple}, api.ACA, api.OK)
	wantEnter(t, s, Task{Nexus: 1, Tag: 99, Attr: api.ForACA}, api.SetFull, api.OK)
	if n := len(s.Tasks()); n != api.MaxTasks {
		t.Errorf("%d tasks", n)
	}
}

func TestEnterWhileAnAllegianceStands(t *testing.T) {
	for holder := range api.MaxNexus {
		s := New()
		enter(t, s, Task{Nexus: 4, Tag: 100})
		wantOK(t, s.Establish(holder))
		for nexus := range api.MaxNexus {
			for attr := range api.ForACA + 1 {
				task := Task{Nexus: nexus, Tag: uint32(attr), Attr: attr}
				if nexus == holder && attr == api.ForACA {
					wantEnter(t, s, task, api.Good, api.OK)
				} else {
					wantEnter(t, s, task, api.ACA, api.OK)
				}
			}
		}
		wantList(t, s.Tasks(), Task{Nexus: 4, Tag: 100}, Task{Nexus: holder, Tag: 3, Attr: api.ForACA})
	}
}

func TestEnterAtTheLimit(t *testing.T) {
	s := full(t)
	before := s.Tasks()
	if len(before) != api.MaxTasks {
		t.Fatalf("%d tasks", len(before))
	}
	for attr := range api.ForACA {
		wantEnter(t, s, of(99, attr), api.SetFull, api.OK)
	}
	wantList(t, s.Tasks(), before...)
	wantOK(t, s.Start(0, 0))
	wantEnter(t, s, of(99, api.Simple), api.SetFull, api.OK)
	wantOK(t, s.End(0, 0))
	enter(t, s, of(99, api.Simple))
	wantEnter(t, s, of(98, api.Simple), api.SetFull, api.OK)
	wantList(t, s.Tasks(), append(before[1:], of(99, api.Simple))...)
}

// P9.2, and when a task may start.

func TestSimpleTasksStartInAnyOrder(t *testing.T) {
	s := full(t)
	if n := len(s.Ready()); n != api.MaxTasks {
		t.Errorf("%d may start", n)
	}
	for i := api.MaxTasks - 1; i >= 0; i-- {
		wantOK(t, s.Start(i%api.MaxNexus, uint32(i)))
		if n := len(s.Ready()); n != i {
			t.Errorf("%d may start; want %d", n, i)
		}
	}
}

func TestOrderedWaitsForAllAheadAndKeepsAllBehind(t *testing.T) {
	s := New()
	enter(t, s, of(1, api.Simple), of(2, api.Ordered), of(3, api.Simple), of(4, api.Ordered), of(5, api.Simple))
	wantReady(t, s, 1)
	wantOK(t, s.Start(0, 1))
	wantReady(t, s)
	wantErrno(t, api.ErrState, s.Start(0, 2), s.Start(0, 3), s.Start(0, 4), s.Start(0, 5))
	wantOK(t, s.End(0, 1))
	wantReady(t, s, 2)
	wantErrno(t, api.ErrState, s.Start(0, 3))
	wantOK(t, s.Start(0, 2))
	wantReady(t, s)
	wantErrno(t, api.ErrState, s.Start(0, 3))
	wantOK(t, s.End(0, 2))
	wantReady(t, s, 3)
	run(t, s, 3)
	wantReady(t, s, 4)
	run(t, s, 4)
	wantReady(t, s, 5)
}

func TestOrderedOfOneNexusKeepsOthersToo(t *testing.T) {
	s := New()
	enter(t, s, Task{Nexus: 1, Tag: 1, Attr: api.Ordered}, Task{Nexus: 2, Tag: 2}, Task{Nexus: 3, Tag: 3, Attr: api.Ordered})
	wantList(t, s.Ready(), Task{Nexus: 1, Tag: 1, Attr: api.Ordered})
	wantOK(t, s.Start(1, 1), s.End(1, 1))
	wantList(t, s.Ready(), Task{Nexus: 2, Tag: 2})
}

func TestHeadGoesAheadOfAll(t *testing.T) {
	s := New()
	enter(t, s, of(1, api.Simple), of(2, api.Ordered), of(3, api.Head), of(4, api.Simple), of(5, api.Head))
	wantReady(t, s, 3, 5)
	wantErrno(t, api.ErrState, s.Start(0, 1), s.Start(0, 2), s.Start(0, 4))
	wantOK(t, s.Start(0, 5))
	wantReady(t, s, 3)
	wantOK(t, s.Start(0, 3))
	// A Head one that has started is in the set still, and keeps the others.
	wantReady(t, s)
	wantOK(t, s.End(0, 3))
	wantReady(t, s)
	wantErrno(t, api.ErrState, s.Start(0, 1))
	wantOK(t, s.End(0, 5))
	wantReady(t, s, 1)
}

func TestHeadGoesAheadOfWhatHasStarted(t *testing.T) {
	s := New()
	enter(t, s, of(1, api.Ordered))
	wantOK(t, s.Start(0, 1))
	enter(t, s, of(2, api.Head))
	wantReady(t, s, 2)
	run(t, s, 2)
	wantOK(t, s.End(0, 1))
}

func TestAnOrderedTaskIsKeptByAHeadOneBehindIt(t *testing.T) {
	s := New()
	enter(t, s, of(1, api.Ordered), of(2, api.Head))
	wantErrno(t, api.ErrState, s.Start(0, 1))
	wantList(t, s.Abort(0, 2), of(2, api.Head))
	wantOK(t, s.Start(0, 1))
}

func TestAnAllegianceKeepsAllButForACA(t *testing.T) {
	s := New()
	enter(t, s, of(1, api.Simple), of(2, api.Simple), of(3, api.Ordered), of(4, api.Head))
	run(t, s, 4)
	wantOK(t, s.Start(0, 1), s.Establish(5))
	wantReady(t, s)
	wantErrno(t, api.ErrState, s.Start(0, 1), s.Start(0, 2), s.Start(0, 3))
	enter(t, s, Task{Nexus: 5, Tag: 8, Attr: api.ForACA}, Task{Nexus: 5, Tag: 9, Attr: api.ForACA})
	wantReady(t, s, 8, 9)
	wantOK(t, s.Start(5, 9))
	wantReady(t, s, 8)
	wantOK(t, s.End(5, 9))
	wantReady(t, s, 8)
	// What has started ahead of the allegiance may end while it stands.
	wantOK(t, s.End(0, 1))
	wantList(t, s.Relieve(), Task{Nexus: 5, Tag: 8, Attr: api.ForACA})
	wantReady(t, s, 2)
}

func TestAnAllegianceKeepsHead(t *testing.T) {
	s := New()
	enter(t, s, of(1, api.Head))
	wantOK(t, s.Establish(0))
	wantReady(t, s)
	wantErrno(t, api.ErrState, s.Start(0, 1))
	enter(t, s, of(2, api.ForACA))
	wantReady(t, s, 2)
	run(t, s, 2)
	s.Relieve()
	wantReady(t, s, 1)
}

func TestStartAndEnd(t *testing.T) {
	s := New()
	enter(t, s, Task{Nexus: 1, Tag: 5}, Task{Nexus: 2, Tag: 5}, Task{Nexus: 1, Tag: 6})
	wantErrno(t, api.ErrState, s.End(2, 5))
	wantOK(t, s.Start(2, 5))
	wantList(t, s.Tasks(), Task{Nexus: 1, Tag: 5}, Task{Nexus: 2, Tag: 5, Started: true}, Task{Nexus: 1, Tag: 6})
	wantList(t, s.Ready(), Task{Nexus: 1, Tag: 5}, Task{Nexus: 1, Tag: 6})
	wantErrno(t, api.ErrState, s.Start(2, 5), s.End(1, 5), s.End(1, 6))
	wantOK(t, s.End(2, 5))
	wantList(t, s.Tasks(), Task{Nexus: 1, Tag: 5}, Task{Nexus: 1, Tag: 6})
	wantErrno(t, api.ErrNone, s.Start(2, 5), s.End(2, 5))
}

func TestStartAndEndOfNoSuchTask(t *testing.T) {
	s := New()
	enter(t, s, Task{Nexus: 0, Tag: 1}, Task{Nexus: 7, Tag: 2})
	wantErrno(t, api.ErrNone, s.Start(0, 2), s.Start(7, 1), s.Start(3, 1), s.End(0, 2), s.End(7, 1), s.End(3, 1))
	for _, nexus := range noNexus() {
		wantErrno(t, api.ErrNone, s.Start(nexus, 1), s.Start(nexus, 2), s.End(nexus, 1), s.End(nexus, 2))
	}
	wantOK(t, s.Establish(0))
	wantErrno(t, api.ErrNone, s.Start(0, 2))
	wantList(t, s.Tasks(), Task{Nexus: 0, Tag: 1}, Task{Nexus: 7, Tag: 2})
}

// P9.3.

func TestAbort(t *testing.T) {
	s := New()
	enter(t, s, Task{Nexus: 1, Tag: 5}, Task{Nexus: 2, Tag: 5}, Task{Nexus: 1, Tag: 6, Attr: api.Ordered}, Task{Nexus: 2, Tag: 6})
	wantOK(t, s.Start(2, 5))
	wantList(t, s.Abort(2, 5), Task{Nexus: 2, Tag: 5, Started: true})
	wantList(t, s.Abort(2, 5))
	wantList(t, s.Abort(1, 6), Task{Nexus: 1, Tag: 6, Attr: api.Ordered})
	wantList(t, s.Tasks(), Task{Nexus: 1, Tag: 5}, Task{Nexus: 2, Tag: 6})
	wantReady(t, s, 5, 6)
	for _, nexus := range append(noNexus(), 0, 7) {
		wantList(t, s.Abort(nexus, 5))
		wantList(t, s.AbortAll(nexus))
	}
	wantList(t, s.Abort(1, 7))
	wantList(t, s.Tasks(), Task{Nexus: 1, Tag: 5}, Task{Nexus: 2, Tag: 6})
}

func TestAbortAll(t *testing.T) {
	s := full(t)
	wantOK(t, s.Start(3, 11))
	wantList(t, s.AbortAll(3), Task{Nexus: 3, Tag: 3}, Task{Nexus: 3, Tag: 11, Started: true})
	wantList(t, s.AbortAll(3))
	if n := len(s.Tasks()); n != api.MaxTasks-2 {
		t.Errorf("%d tasks are left", n)
	}
	enter(t, s, Task{Nexus: 3, Tag: 11}, Task{Nexus: 3, Tag: 3})
	wantList(t, s.AbortAll(3), Task{Nexus: 3, Tag: 11}, Task{Nexus: 3, Tag: 3})
	for nexus := range api.MaxNexus {
		s.AbortAll(nexus)
	}
	wantList(t, s.Tasks())
}

func TestAbortLeavesTheAllegiance(t *testing.T) {
	s := New()
	wantOK(t, s.Establish(2))
	first, second := Task{Nexus: 2, Tag: 1, Attr: api.ForACA}, Task{Nexus: 2, Tag: 2, Attr: api.ForACA}
	enter(t, s, first, second)
	wantList(t, s.Abort(2, 1), first)
	wantStands(t, s, 2)
	wantList(t, s.AbortAll(2), second)
	wantStands(t, s, 2)
	wantEnter(t, s, of(3, api.Simple), api.ACA, api.OK)
	enter(t, s, second)
}

func TestClear(t *testing.T) {
	s := full(t)
	wantOK(t, s.Start(4, 12), s.Establish(4))
	before := s.Tasks()
	wantList(t, s.Clear(), before...)
	wantList(t, s.Tasks())
	wantStands(t, s, -1)
	wantList(t, s.Clear())
	wantEnter(t, s, Task{Nexus: 4, Attr: api.ForACA}, api.ACA, api.OK)
	enter(t, s, Task{Nexus: 4, Tag: 12})
	wantReady(t, s, 12)
	wantOK(t, s.Establish(6))
}

func TestClearOfAnAllegianceAlone(t *testing.T) {
	s := New()
	wantOK(t, s.Establish(0))
	wantList(t, s.Clear())
	wantStands(t, s, -1)
}

// P9.4 and P9.5.

func TestEstablish(t *testing.T) {
	for nexus := range api.MaxNexus {
		s := New()
		wantStands(t, s, -1)
		wantOK(t, s.Establish(nexus))
		wantStands(t, s, nexus)
		for other := range api.MaxNexus {
			wantErrno(t, api.ErrState, s.Establish(other))
			wantStands(t, s, nexus)
		}
		for _, no := range noNexus() {
			wantErrno(t, api.ErrArg, s.Establish(no))
			wantStands(t, s, nexus)
		}
		wantList(t, s.Relieve())
		wantStands(t, s, -1)
		wantOK(t, s.Establish(api.MaxNexus-1-nexus))
	}
}

func TestEstablishForWhatIsNoNexus(t *testing.T) {
	s := New()
	for _, no := range noNexus() {
		wantErrno(t, api.ErrArg, s.Establish(no))
		wantStands(t, s, -1)
	}
	enter(t, s, of(1, api.Simple))
	wantReady(t, s, 1)
}

func TestRelieve(t *testing.T) {
	s := New()
	enter(t, s, of(1, api.Simple), Task{Nexus: 3, Tag: 1, Attr: api.Ordered})
	wantOK(t, s.Start(0, 1), s.Establish(3))
	for tag := range uint32(3) {
		enter(t, s, Task{Nexus: 3, Tag: 9 - tag, Attr: api.ForACA})
	}
	wantOK(t, s.Start(3, 8))
	wantList(t, s.Relieve(),
		Task{Nexus: 3, Tag: 9, Attr: api.ForACA},
		Task{Nexus: 3, Tag: 8, Attr: api.ForACA, Started: true},
		Task{Nexus: 3, Tag: 7, Attr: api.ForACA})
	wantStands(t, s, -1)
	wantList(t, s.Tasks(), Task{Tag: 1, Started: true}, Task{Nexus: 3, Tag: 1, Attr: api.Ordered})
	wantList(t, s.Relieve())
	wantEnter(t, s, Task{Nexus: 3, Tag: 9, Attr: api.ForACA}, api.ACA, api.OK)
	wantList(t, s.Tasks(), Task{Tag: 1, Started: true}, Task{Nexus: 3, Tag: 1, Attr: api.Ordered})
}

func TestRelieveWhereNoneStands(t *testing.T) {
	s := full(t)
	before := s.Tasks()
	wantList(t, s.Relieve())
	wantStands(t, s, -1)
	wantList(t, s.Tasks(), before...)
	wantList(t, s.Ready(), before...)
}

func TestNilSet(t *testing.T) {
	var s *Set
	numbers := noNexus()
	for nexus := range api.MaxNexus {
		numbers = append(numbers, nexus)
	}
	for _, nexus := range numbers {
		for attr := range api.Attr(5) {
			wantEnter(t, s, Task{Nexus: nexus, Tag: 1, Attr: attr}, api.Good, api.ErrNone)
		}
		wantErrno(t, api.ErrNone, s.Start(nexus, 1), s.End(nexus, 1), s.Establish(nexus))
		wantList(t, s.Abort(nexus, 1))
		wantList(t, s.AbortAll(nexus))
	}
	wantList(t, s.Ready())
	wantList(t, s.Clear())
	wantList(t, s.Relieve())
	wantList(t, s.Tasks())
	wantStands(t, s, -1)
}

// The rules on memory, P1 and P2.

// spoil writes over a list and its spare room.
func spoil(tasks []Task) {
	room := tasks[:cap(tasks)]
	for i := range room {
		room[i] = Task{Nexus: -7, Tag: 777, Attr: 77, Started: !room[i].Started}
	}
}

func TestAnswersAreNewMemory(t *testing.T) {
	s := full(t)
	wanted := s.Tasks()
	all, ready, again := s.Tasks(), s.Ready(), s.Tasks()
	spoil(all)
	wantList(t, ready, wanted...)
	wantList(t, again, wanted...)
	spoil(ready)
	wantList(t, again, wanted...)
	wantList(t, s.Tasks(), wanted...)
	wantList(t, s.Ready(), wanted...)
	wantOK(t, s.Start(0, 0), s.End(0, 0))
	wantList(t, again, wanted...)
}

func TestASetOutlastsSpoiledAnswers(t *testing.T) {
	for n := range api.MaxTasks + 1 {
		s := New()
		var wanted []Task
		for i := range n {
			task := Task{Nexus: i % 2, Tag: uint32(i)}
			enter(t, s, task)
			spoil(s.Tasks())
			spoil(s.Ready())
			wanted = append(wanted, task)
		}
		wantList(t, s.Tasks(), wanted...)
		gone := s.AbortAll(1)
		left := s.Tasks()
		spoil(gone)
		wantList(t, s.Tasks(), left...)
		gone = s.Abort(0, 0)
		left = s.Tasks()
		spoil(gone)
		wantList(t, s.Tasks(), left...)
		gone = s.Clear()
		enter(t, s, of(1, api.Head))
		wantList(t, gone, left...)
		spoil(gone)
		wantList(t, s.Tasks(), of(1, api.Head))
	}
}

func TestWhatIsGoneDoesntChangeWithTheSet(t *testing.T) {
	s := New()
	wantOK(t, s.Establish(0))
	enter(t, s, of(1, api.ForACA), of(2, api.ForACA), of(3, api.ForACA))
	one := s.Abort(0, 1)
	rest := s.Relieve()
	spoil(one)
	enter(t, s, of(4, api.Simple), of(5, api.Simple), of(6, api.Simple))
	wantList(t, rest, of(2, api.ForACA), of(3, api.ForACA))
	spoil(rest)
	wantList(t, s.Tasks(), of(4, api.Simple), of(5, api.Simple), of(6, api.Simple))
}

func TestSetsShareNothing(t *testing.T) {
	one, other := New(), New()
	enter(t, one, of(1, api.Head))
	wantOK(t, one.Establish(3))
	wantList(t, other.Tasks())
	wantStands(t, other, -1)
	enter(t, other, of(1, api.Simple))
	wantOK(t, other.Start(0, 1))
	wantList(t, one.Tasks(), of(1, api.Head))
}

func TestAskingChangesNothing(t *testing.T) {
	s := New()
	enter(t, s, of(1, api.Simple), of(2, api.Ordered))
	for range 3 {
		wantReady(t, s, 1)
		wantList(t, s.Tasks(), of(1, api.Simple), of(2, api.Ordered))
		wantStands(t, s, -1)
	}
}

// everyCall calls each method, of one task and nexus.
func everyCall(s *Set, task Task) {
	s.Enter(task)
	s.Ready()
	s.Start(task.Nexus, task.Tag)
	s.End(task.Nexus, task.Tag)
	s.Enter(task)
	s.Tasks()
	s.Abort(task.Nexus, task.Tag)
	s.AbortAll(task.Nexus)
	s.Establish(task.Nexus)
	s.Enter(task)
	s.Ready()
	s.Stands()
	s.Relieve()
	s.Clear()
}

func TestZeroSetsAndCopiesDontPanic(t *testing.T) {
	for _, nexus := range append(noNexus(), 0, 7) {
		for attr := range api.Attr(5) {
			task := Task{Nexus: nexus, Tag: 1, Attr: attr}
			everyCall(&Set{}, task)
			everyCall(new(Set), task)
			s := full(t)
			copied := *s
			everyCall(s, task)
			everyCall(&copied, task)
		}
	}
}
