package attn

import (
	"fmt"
	"math"
	"math/rand"
	"slices"
	"testing"

	"pallet/api"
)

// noNexus has numbers that are no nexus.
func noNexus() []int {
	return []int{-1, -2, api.MaxNexus, api.MaxNexus + 1, 256, 1 << 32, math.MinInt, math.MaxInt}
}

// fill makes MaxAttn codes wait, none of which PowerOn is, and tells them.
func fill(q *Queues, nexus int) []uint16 {
	var list []uint16
	for i := range uint16(api.MaxAttn) {
		q.Add(nexus, 0x3000+i)
		list = append(list, 0x3000+i)
	}
	return list
}

func wantList(t *testing.T, q *Queues, nexus int, wanted ...uint16) {
	t.Helper()
	if got := q.List(nexus); !slices.Equal(got, wanted) {
		t.Errorf("List(%d) = %04x; want %04x", nexus, got, wanted)
	}
}

func wantNext(t *testing.T, q *Queues, nexus int, wanted ...uint16) {
	t.Helper()
	for _, code := range wanted {
		if got, ok := q.Peek(nexus); got != code || !ok {
			t.Errorf("Peek(%d) = %04x, %v; want %04x", nexus, got, ok, code)
		}
		if got, ok := q.Next(nexus); got != code || !ok {
			t.Errorf("Next(%d) = %04x, %v; want %04x", nexus, got, ok, code)
		}
	}
	wantNothing(t, q, nexus)
}

func wantNothing(t *testing.T, q *Queues, nexus int) {
	t.Helper()
	if got, ok := q.Peek(nexus); got != 0 || ok {
		t.Errorf("Peek(%d) = %04x, %v; want nothing", nexus, got, ok)
	}
	if got, ok := q.Next(nexus); got != 0 || ok {
		t.Errorf("Next(%d) = %04x, %v; want nothing", nexus, got, ok)
	}
	if got := q.List(nexus); len(got) != 0 {
		t.Errorf("List(%d) = %04x; want nothing", nexus, got)
	}
}

func wantNothingAnywhere(t *testing.T, q *Queues) {
	t.Helper()
	for nexus := range api.MaxNexus {
		wantNothing(t, q, nexus)
	}
	for _, nexus := range noNexus() {
		wantNothing(t, q, nexus)
	}
}

// The chapter's examples.

func TestExamples(t *testing.T) {
	q := New()
	q.Add(1, 0x2a01)
	q.Add(1, 0x2a03)
	q.Add(1, 0x2a01)
	wantList(t, q, 1, 0x2a01, 0x2a03)
	wantNext(t, q, 1, 0x2a03, 0x2a01)
	q.Add(1, 0x2a01)
	q.Add(1, 0x2900)
	wantList(t, q, 1, 0x2900)
	wantNext(t, q, 1, 0x2900)
}

func TestNewHasNothing(t *testing.T) {
	wantNothingAnywhere(t, New())
}

// P7.1.

func TestAddForEveryNexusAlone(t *testing.T) {
	q := New()
	for nexus := range api.MaxNexus {
		q.Add(nexus, uint16(0x3000+nexus))
		q.Add(nexus, 0x4000)
	}
	for nexus := range api.MaxNexus {
		wantList(t, q, nexus, uint16(0x3000+nexus), 0x4000)
	}
}

func TestAddOfACodeThatWaitsKeepsItsPlace(t *testing.T) {
	q := New()
	for _, code := range []uint16{1, 2, 3, 1, 2, 3, 2} {
		q.Add(0, code)
	}
	wantList(t, q, 0, 1, 2, 3)
	q.Next(0)
	q.Add(0, 1)
	wantList(t, q, 0, 2, 3, 1)
}

func TestAddOfCodesAtTheEdges(t *testing.T) {
	q := New()
	q.Add(0, 0xffff)
	q.Add(0, 0)
	wantList(t, q, 0, 0xffff, 0)
	wantNext(t, q, 0, 0xffff, 0)
}

func TestAddAtTheLimit(t *testing.T) {
	q := New()
	list := fill(q, 2)
	wantList(t, q, 2, list...)
	for _, code := range []uint16{0x5000, 0x2a03, 0x2f00, 0x2901, list[0]} {
		q.Add(2, code)
		wantList(t, q, 2, list...)
	}
	q.Next(2)
	q.Add(2, 0x5000)
	wantList(t, q, 2, append(list[1:], 0x5000)...)
	q.Add(2, 0x5001)
	wantList(t, q, 2, append(list[1:], 0x5000)...)
}

func TestPowerOnTakesThePlaceOfAll(t *testing.T) {
	q := New()
	fill(q, 3)
	fill(q, 4)
	q.Add(3, api.PowerOn)
	wantList(t, q, 3, api.PowerOn)
	if n := len(q.List(4)); n != api.MaxAttn {
		t.Errorf("PowerOn of another nexus left %d", n)
	}
	q.Add(3, 0x2a01)
	q.Add(3, 0x2901)
	wantList(t, q, 3, api.PowerOn, 0x2a01, 0x2901)
	q.Add(3, api.PowerOn)
	wantList(t, q, 3, api.PowerOn)
	q.Add(3, api.PowerOn)
	wantNext(t, q, 3, api.PowerOn)
}

func TestOnlyPowerOnTakesThePlaceOfOthers(t *testing.T) {
	for code := range math.MaxUint16 + 1 {
		q := New()
		q.Add(0, 0x1234)
		q.Add(0, uint16(code))
		wanted := []uint16{0x1234, uint16(code)}
		switch code {
		case 0x1234:
			wanted = wanted[:1]
		case 0x2900:
			wanted = wanted[1:]
		}
		wantList(t, q, 0, wanted...)
	}
}

func TestAddAll(t *testing.T) {
	for but := range api.MaxNexus {
		q := New()
		q.Add(but, 0x3000)
		q.AddAll(but, 0x4000)
		for nexus := range api.MaxNexus {
			if nexus == but {
				wantList(t, q, nexus, 0x3000)
			} else {
				wantList(t, q, nexus, 0x4000)
			}
		}
	}
	for _, but := range noNexus() {
		q := New()
		q.AddAll(but, 0x4000)
		for nexus := range api.MaxNexus {
			wantList(t, q, nexus, 0x4000)
		}
	}
}

func TestAddAllIsAddForEach(t *testing.T) {
	q := New()
	list := fill(q, 1)
	q.Add(2, 0x4000)
	q.Add(2, 0x4001)
	q.Add(3, api.PowerOn)
	q.AddAll(0, 0x4000)
	wantList(t, q, 0)
	wantList(t, q, 1, list...)
	wantList(t, q, 2, 0x4000, 0x4001)
	wantList(t, q, 3, api.PowerOn, 0x4000)
	q.AddAll(2, api.PowerOn)
	for nexus := range api.MaxNexus {
		if nexus == 2 {
			wantList(t, q, nexus, 0x4000, 0x4001)
		} else {
			wantList(t, q, nexus, api.PowerOn)
		}
	}
}

// P7.2.

// rankOf tells the rank by the digits of a code in base 16.
func rankOf(code uint16) int {
	digits := fmt.Sprintf("%04x", code)
	switch {
	case digits[:2] == "29":
		return 0
	case digits == "2f00":
		return 1
	case digits == "2a01":
		return 3
	case digits[:2] == "2a":
		return 2
	}
	return 3
}

// Each code is held against one of each rank, which came behind it and ahead of it.
func TestTheLeastRankGoesFirst(t *testing.T) {
	for i := range math.MaxUint16 + 1 {
		code := uint16(i)
		for other := range 4 {
			beside := []uint16{0x29ff, 0x2f00, 0x2aff, 0x9999}[other]
			if code == beside || code == api.PowerOn {
				continue
			}
			q := New()
			q.Add(0, code)
			q.Add(0, beside)
			if rankOf(code) <= other {
				wantNext(t, q, 0, code, beside)
			} else {
				wantNext(t, q, 0, beside, code)
			}
			q.Add(0, beside)
			q.Add(0, code)
			if rankOf(code) < other {
				wantNext(t, q, 0, code, beside)
			} else {
				wantNext(t, q, 0, beside, code)
			}
		}
	}
}

func TestAllRanksInTurn(t *testing.T) {
	q := New()
	for _, code := range []uint16{0x2a01, 0x3f0e, 0x2a05, 0x2f01, 0x2a03, 0x2f00, 0x2902, 0x2901} {
		q.Add(7, code)
	}
	wantNext(t, q, 7, 0x2902, 0x2901, 0x2f00, 0x2a05, 0x2a03, 0x2a01, 0x3f0e, 0x2f01)
	q.Add(7, 0x2900)
	q.Add(7, 0x2901)
	wantNext(t, q, 7, 0x2900, 0x2901)
}

func TestPeekLeavesWhatWaits(t *testing.T) {
	q := New()
	q.Add(0, 0x2a01)
	q.Add(0, 0x2a03)
	for range 3 {
		if code, ok := q.Peek(0); code != 0x2a03 || !ok {
			t.Errorf("Peek = %04x, %v", code, ok)
		}
		wantList(t, q, 0, 0x2a01, 0x2a03)
	}
}

func TestNextTakesFromItsNexusAlone(t *testing.T) {
	q := New()
	q.AddAll(-1, 0x2a03)
	q.AddAll(-1, 0x2a04)
	if code, ok := q.Next(5); code != 0x2a03 || !ok {
		t.Errorf("Next = %04x, %v", code, ok)
	}
	for nexus := range api.MaxNexus {
		if nexus == 5 {
			wantList(t, q, nexus, 0x2a04)
		} else {
			wantList(t, q, nexus, 0x2a03, 0x2a04)
		}
	}
}

// P7.3.

func TestClear(t *testing.T) {
	q := New()
	q.AddAll(-1, 0x2a03)
	q.AddAll(-1, 0x2a04)
	q.Clear(6)
	wantNothing(t, q, 6)
	wantList(t, q, 5, 0x2a03, 0x2a04)
	wantList(t, q, 7, 0x2a03, 0x2a04)
	q.Clear(6)
	q.Add(6, 0x2a04)
	wantList(t, q, 6, 0x2a04)
}

func TestNumbersThatAreNoNexus(t *testing.T) {
	for _, no := range noNexus() {
		q := New()
		q.Add(no, 0x2a03)
		q.Add(no, api.PowerOn)
		wantNothingAnywhere(t, q)
		q.AddAll(-1, 0x2a03)
		q.Add(no, 0x2a04)
		q.Add(no, api.PowerOn)
		q.Clear(no)
		wantNothing(t, q, no)
		for nexus := range api.MaxNexus {
			wantList(t, q, nexus, 0x2a03)
		}
	}
}

func TestNilQueues(t *testing.T) {
	var q *Queues
	numbers := noNexus()
	for nexus := range api.MaxNexus {
		numbers = append(numbers, nexus)
	}
	for _, nexus := range numbers {
		q.Add(nexus, 0x2a03)
		q.Add(nexus, api.PowerOn)
		q.AddAll(nexus, 0x2a03)
		q.Clear(nexus)
		wantNothing(t, q, nexus)
	}
}

// model is the chapter told in another way: each code with the time at which it came.
type model struct {
	came map[int]map[uint16]int
	time int
}

func (m *model) add(nexus int, code uint16) {
	if nexus < 0 || nexus > 7 {
		return
	}
	m.time++
	if m.came[nexus] == nil || code == 0x2900 {
		m.came[nexus] = map[uint16]int{}
	}
	if _, waits := m.came[nexus][code]; !waits && len(m.came[nexus]) < 8 {
		m.came[nexus][code] = m.time
	}
}

func (m *model) addAll(but int, code uint16) {
	for nexus := 0; nexus <= 7; nexus++ {
		if nexus != but {
			m.add(nexus, code)
		}
	}
}

func (m *model) list(nexus int) []uint16 {
	var list []uint16
	for code := range m.came[nexus] {
		list = append(list, code)
	}
	slices.SortFunc(list, func(a, b uint16) int { return m.came[nexus][a] - m.came[nexus][b] })
	return list
}

func (m *model) peek(nexus int) (uint16, bool) {
	list := m.list(nexus)
	if len(list) == 0 {
		return 0, false
	}
	slices.SortStableFunc(list, func(a, b uint16) int { return rankOf(a) - rankOf(b) })
	return list[0], true
}

func TestAnyCallsAsTheModel(t *testing.T) {
	codes := []uint16{0, 0x2900, 0x2901, 0x29ff, 0x2f00, 0x2f01, 0x2a00, 0x2a01, 0x2a02, 0x2a03, 0x2a04, 0x2a05, 0x2aff, 0x28ff, 0x3f0e, 0xffff}
	for seed := range int64(200) {
		r := rand.New(rand.NewSource(seed))
		q, m := New(), &model{came: map[int]map[uint16]int{}}
		for range 300 {
			nexus, code := r.Intn(11)-1, codes[r.Intn(len(codes))]
			if code == 0x2900 && r.Intn(4) != 0 {
				code = 0x2a01
			}
			switch r.Intn(12) {
			case 0:
				q.Clear(nexus)
				delete(m.came, nexus)
			case 1, 2, 3:
				q.AddAll(nexus, code)
				m.addAll(nexus, code)
			case 4, 5, 6, 7:
				got, ok := q.Next(nexus)
				if wanted, there := m.peek(nexus); got != wanted || ok != there {
					t.Fatalf("seed %d: Next(%d) = %04x, %v; want %04x, %v", seed, nexus, got, ok, wanted, there)
				}
				delete(m.came[nexus], got)
			default:
				q.Add(nexus, code)
				m.add(nexus, code)
			}
			for nexus := -1; nexus <= 8; nexus++ {
				wanted, there := m.peek(nexus)
				if got, ok := q.Peek(nexus); got != wanted || ok != there {
					t.Fatalf("seed %d: Peek(%d) = %04x, %v; want %04x, %v", seed, nexus, got, ok, wanted, there)
				}
				if got, wanted := q.List(nexus), m.list(nexus); !slices.Equal(got, wanted) {
					t.Fatalf("seed %d: List(%d) = %04x; want %04x", seed, nexus, got, wanted)
				}
			}
		}
	}
}

// The rules on memory, P1 and P2.

// spoil writes over a list and its spare room.
func spoil(list []uint16) {
	room := list[:cap(list)]
	for i := range room {
		room[i] ^= 0x5555
	}
}

func TestListIsNewMemory(t *testing.T) {
	for n := range api.MaxAttn + 1 {
		q := New()
		var wanted []uint16
		for i := range uint16(n) {
			q.Add(0, 0x3000+i)
			wanted = append(wanted, 0x3000+i)
		}
		first := q.List(0)
		second := q.List(0)
		spoil(first)
		if !slices.Equal(second, wanted) {
			t.Errorf("an answer shares memory with an earlier one: %04x", second)
		}
		q.Add(0, 0x4000)
		q.Next(0)
		q.Add(0, 0x4001)
		if !slices.Equal(second, wanted) {
			t.Errorf("an answer changes with what waits: %04x", second)
		}
	}
}

func TestWhatWaitsOutlastsSpoiledAnswers(t *testing.T) {
	q := New()
	list := fill(q, 0)
	for range 3 {
		spoil(q.List(0))
		wantList(t, q, 0, list...)
	}
	q.Next(0)
	spoil(q.List(0))
	q.Add(0, 0x4000)
	wantList(t, q, 0, append(list[1:], 0x4000)...)
}

func TestQueuesShareNothing(t *testing.T) {
	one, other := New(), New()
	one.AddAll(-1, 0x2a03)
	wantNothingAnywhere(t, other)
	other.AddAll(-1, api.PowerOn)
	for nexus := range api.MaxNexus {
		wantList(t, one, nexus, 0x2a03)
		wantList(t, other, nexus, api.PowerOn)
	}
}

func TestZeroQueuesDontPanic(t *testing.T) {
	for _, nexus := range append(noNexus(), 0, 7) {
		var q Queues
		q.Add(nexus, 0x2a03)
		q.AddAll(nexus, api.PowerOn)
		q.Peek(nexus)
		q.Next(nexus)
		q.Next(nexus)
		q.List(nexus)
		q.Clear(nexus)
	}
}
