package task

import (
	"math/rand"
	"slices"
	"testing"

	"pallet/api"
)

// model is the chapter told in another way: tasks by the time at which they came.
type model struct {
	at    map[int]Task
	time  int
	aca   bool
	owner int
}

func newModel() *model { return &model{at: map[int]Task{}} }

// times tells when the tasks came, in their order, of which wanted says so.
func (m *model) times(wanted func(time int, t Task) bool) []int {
	var out []int
	for time := 1; time <= m.time; time++ {
		if t, there := m.at[time]; there && wanted(time, t) {
			out = append(out, time)
		}
	}
	return out
}

func (m *model) tasks(times []int) []Task {
	var out []Task
	for _, time := range times {
		out = append(out, m.at[time])
	}
	return out
}

func (m *model) remove(wanted func(time int, t Task) bool) []Task {
	times := m.times(wanted)
	gone := m.tasks(times)
	for _, time := range times {
		delete(m.at, time)
	}
	return gone
}

func every(int, Task) bool { return true }

func named(nexus int, tag uint32) func(int, Task) bool {
	return func(_ int, t Task) bool { return t.Nexus == nexus && t.Tag == tag }
}

func (m *model) may(time int, t Task) bool {
	if t.Started {
		return false
	}
	if m.aca {
		return t.Attr == 3
	}
	others := func(attr api.Attr, below int) int {
		return len(m.times(func(o int, other Task) bool { return o != time && o < below && other.Attr == attr }))
	}
	ahead := len(m.times(func(o int, _ Task) bool { return o < time }))
	return t.Attr == 2 ||
		others(2, m.time+1) == 0 && others(1, time) == 0 && (t.Attr != 1 || ahead == 0)
}

func (m *model) enter(t Task) (api.Status, api.Errno) {
	if t.Nexus < 0 || t.Nexus > 7 || t.Attr > 3 {
		return 0, 1
	}
	if len(m.times(named(t.Nexus, t.Tag))) > 0 {
		return 0, 9
	}
	if m.aca && !(t.Attr == 3 && t.Nexus == m.owner) || !m.aca && t.Attr == 3 {
		return 0x30, 0
	}
	if len(m.at) == 16 {
		return 0x28, 0
	}
	m.time++
	m.at[m.time] = Task{Nexus: t.Nexus, Tag: t.Tag, Attr: t.Attr}
	return 0, 0
}

func (m *model) start(nexus int, tag uint32) api.Errno {
	times := m.times(named(nexus, tag))
	if len(times) == 0 {
		return 8
	}
	t := m.at[times[0]]
	if !m.may(times[0], t) {
		return 12
	}
	t.Started = true
	m.at[times[0]] = t
	return 0
}

func (m *model) end(nexus int, tag uint32) api.Errno {
	times := m.times(named(nexus, tag))
	if len(times) == 0 {
		return 8
	}
	if !m.at[times[0]].Started {
		return 12
	}
	delete(m.at, times[0])
	return 0
}

func (m *model) establish(nexus int) api.Errno {
	if nexus < 0 || nexus > 7 {
		return 1
	}
	if m.aca {
		return 12
	}
	m.aca, m.owner = true, nexus
	return 0
}

func (m *model) stands() int {
	if m.aca {
		return m.owner
	}
	return -1
}

// both is a set and the model of it, to be told the same.
type both struct {
	t *testing.T
	s *Set
	m *model
}

func (b *both) errno(call string, got, wanted api.Errno) {
	b.t.Helper()
	if got != wanted {
		b.t.Fatalf("%s: %d; want %d", call, got, wanted)
	}
}

func (b *both) list(call string, got, wanted []Task) {
	b.t.Helper()
	if !slices.Equal(got, wanted) {
		b.t.Fatalf("%s: %v; want %v", call, got, wanted)
	}
}

func (b *both) enter(t Task) {
	b.t.Helper()
	status, e := b.s.Enter(t)
	if wanted, w := b.m.enter(t); status != wanted || e != w {
		b.t.Fatalf("Enter(%v): %x, %d; want %x, %d", t, status, e, wanted, w)
	}
}

// step does the call of that number at both.
func (b *both) step(call, nexus int, tag uint32, attr api.Attr) {
	b.t.Helper()
	switch call {
	case 0:
		b.errno("Start", b.s.Start(nexus, tag), b.m.start(nexus, tag))
	case 1:
		b.errno("End", b.s.End(nexus, tag), b.m.end(nexus, tag))
	case 2:
		b.list("Abort", b.s.Abort(nexus, tag), b.m.remove(named(nexus, tag)))
	case 3:
		b.list("AbortAll", b.s.AbortAll(nexus), b.m.remove(func(_ int, t Task) bool { return t.Nexus == nexus }))
	case 4:
		b.m.aca = false
		b.list("Clear", b.s.Clear(), b.m.remove(every))
	case 5:
		b.errno("Establish", b.s.Establish(nexus), b.m.establish(nexus))
	case 6:
		b.m.aca = false
		b.list("Relieve", b.s.Relieve(), b.m.remove(func(_ int, t Task) bool { return t.Attr == 3 }))
	default:
		b.enter(Task{Nexus: nexus, Tag: tag, Attr: attr, Started: call%2 == 0})
	}
}

// same holds what the set tells against what the model does.
func (b *both) same() {
	b.t.Helper()
	b.list("Tasks", b.s.Tasks(), b.m.tasks(b.m.times(every)))
	b.list("Ready", b.s.Ready(), b.m.tasks(b.m.times(b.m.may)))
	if got, wanted := b.s.Stands(), b.m.stands(); got != wanted {
		b.t.Fatalf("Stands: %d; want %d", got, wanted)
	}
}

// chosen makes some calls rarer than others, so that sets get full and allegiances stand for a while.
func chosen(r *rand.Rand, rare int) int {
	call := r.Intn(24)
	if call >= 2 && call <= 6 && r.Intn(rare) != 0 {
		return 8
	}
	return call % 12
}

func TestAnyCallsAsTheModel(t *testing.T) {
	for seed := range int64(300) {
		r := rand.New(rand.NewSource(seed))
		b := &both{t, New(), newModel()}
		rare := 1 + int(seed%4)*4
		for range 300 {
			attr := api.Attr(r.Intn(5))
			if attr == api.Head && r.Intn(3) != 0 {
				attr = api.Simple
			}
			b.step(chosen(r, rare), r.Intn(10)-1, uint32(r.Intn(4)), attr)
			b.same()
		}
	}
}

// Each set of up to five tasks of the attributes that come without an allegiance, with each choice of those that are to start as they come; then with an allegiance, and behind it.
func TestEverySmallSetAsTheModel(t *testing.T) {
	for n := range 6 {
		all := 1
		for range n {
			all *= 3
		}
		for number := range all {
			for starts := range 1 << n {
				b := &both{t, New(), newModel()}
				digits := number
				for i := range n {
					b.enter(Task{Tag: uint32(i), Attr: api.Attr(digits % 3)})
					digits /= 3
					if starts>>i&1 != 0 {
						b.step(0, 0, uint32(i), 0)
					}
				}
				b.same()
				b.step(5, 1, 0, 0)
				b.enter(Task{Nexus: 1, Tag: 7, Attr: api.ForACA})
				b.same()
				b.step(6, 0, 0, 0)
				b.same()
				for i := range n {
					b.step(0, 0, uint32(i), 0)
				}
				b.same()
			}
		}
	}
}
