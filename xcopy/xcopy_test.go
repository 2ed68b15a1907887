package xcopy

import (
	"math"
	"slices"
	"testing"

	"pallet/api"
	"pallet/sbc"
	"pallet/store"
	"pallet/world"
)

func aborted(code uint16, done int) api.Result {
	return api.Result{Status: 2, Sense: api.Sense{Key: 0xa, Code: code, Info: uint64(done), HasInfo: true}}
}

func wantRun(t *testing.T, l List, devs []Named, count int, wanted api.Result) {
	t.Helper()
	if n, r := Run(l, devs); n != count || !alikeResults(r, wanted) {
		t.Fatalf("Run(%+v) = %d, %+v; want %d, %+v", l, n, r, count, wanted)
	}
}

// pair tells two devices, a of the blocks 1 to 4, b of the blocks 11 to 15.
func pair(t *testing.T) (*sbc.Dev, *sbc.Dev, []Named) {
	t.Helper()
	a, _ := device(t, 0, 1, 2, 3, 4)
	b, _ := device(t, 0, 11, 12, 13, 14, 15)
	return a, b, []Named{{Serial: "a", Dev: a}, {Serial: "b", Dev: b}}
}

func listOf(segs ...Seg) List { return List{Units: []string{"a", "b"}, Segs: segs} }

// P15.3

func TestRun(t *testing.T) {
	a, b, devs := pair(t)
	wantRun(t, listOf(Seg{0, 1, 2, 1, 3}), devs, 1, api.Result{})
	wantDevice(t, a, 1, 2, 3, 4)
	wantDevice(t, b, 11, 12, 13, 2, 3)
	wantRun(t, listOf(Seg{1, 0, 1, 0, 0}, Seg{0, 1, 1, 0, 2}, Seg{1, 1, 2, 2, 0}), devs, 3, api.Result{})
	wantDevice(t, a, 11, 2, 3, 4)
	wantDevice(t, b, 11, 2, 11, 2, 3)
}

func TestRunOfNothing(t *testing.T) {
	_, _, devs := pair(t)
	wantRun(t, List{}, nil, 0, api.Result{})
	wantRun(t, List{}, devs, 0, api.Result{})
	wantRun(t, listOf(), nil, 0, api.Result{})
	wantRun(t, listOf(Seg{}), nil, 0, aborted(0x0d02, 0))
	wantRun(t, List{Segs: []Seg{{}}}, devs, 0, aborted(0x0d02, 0))
	// A segment of no blocks is one that is done.
	wantRun(t, listOf(Seg{0, 1, 0, 4, 5}), devs, 1, api.Result{})
	wantRun(t, listOf(Seg{0, 1, -1, 4, 5}, Seg{0, 1, math.MinInt, 0, 0}), devs, 2, api.Result{})
	wantRun(t, listOf(Seg{0, 1, 0, 5, 5}), devs, 0, aborted(0x2100, 0))
	wantRun(t, listOf(Seg{0, 1, -7, 4, 6}), devs, 0, aborted(0x2100, 0))
}

// A piece is read whole ahead of being written.
func TestRunWithinOneUnit(t *testing.T) {
	for _, x := range []struct {
		s      Seg
		wanted []byte
	}{
		{Seg{0, 0, 3, 0, 1}, []byte{1, 1, 2, 3}},
		{Seg{0, 0, 3, 1, 0}, []byte{2, 3, 4, 4}},
		{Seg{0, 0, 4, 0, 0}, []byte{1, 2, 3, 4}},
	} {
		a, _, devs := pair(t)
		wantRun(t, listOf(x.s), devs, 1, api.Result{})
		wantDevice(t, a, x.wanted...)
	}
}

func TestUnitsThatAreNotThere(t *testing.T) {
	for _, at := range []int{-1, 2, math.MinInt, math.MaxInt} {
		for _, s := range []Seg{{at, 0, 1, 0, 0}, {0, at, 1, 0, 0}, {at, at, 1, 0, 0}, {at, 0, 0, 99, 99}} {
			a, b, devs := pair(t)
			wantRun(t, listOf(Seg{0, 1, 1, 0, 0}, s, Seg{0, 1, 1, 1, 1}), devs, 1, aborted(0x0d02, 1))
			wantDevice(t, a, 1, 2, 3, 4)
			wantDevice(t, b, 1, 12, 13, 14, 15)
		}
	}
	// A serial that nobody has; one that differs in its case or its end.
	for _, serial := range []string{"", "c", "A", "a ", " a", "ab"} {
		a, b, devs := pair(t)
		l := List{Units: []string{serial, "b", "a"}, Segs: []Seg{{0, 1, 1, 0, 0}}}
		wantRun(t, l, devs, 0, aborted(0x0d02, 0))
		l.Segs[0] = Seg{2, 0, 1, 0, 0}
		wantRun(t, l, devs, 0, aborted(0x0d02, 0))
		wantDevice(t, a, 1, 2, 3, 4)
		wantDevice(t, b, 11, 12, 13, 14, 15)
	}
	// A unit that no segment names needn't be there.
	_, _, devs := pair(t)
	wantRun(t, List{Units: []string{"x", "a", "y", "b"}, Segs: []Seg{{1, 3, 1, 0, 0}}}, devs, 1, api.Result{})
}

// Units are the first with their serials, also if another one with it would do.
func TestTheFirstWithASerial(t *testing.T) {
	a, b, devs := pair(t)
	other, _ := device(t, 0, 21, 22, 23, 24, 25)
	devs = append(devs, Named{Serial: "a", Dev: other}, Named{Serial: "b", Dev: other})
	wantRun(t, listOf(Seg{0, 1, 1, 0, 0}), devs, 1, api.Result{})
	wantDevice(t, a, 1, 2, 3, 4)
	wantDevice(t, b, 1, 12, 13, 14, 15)
	wantDevice(t, other, 21, 22, 23, 24, 25)
	devs[0].Shut = 1
	wantRun(t, listOf(Seg{0, 1, 1, 1, 1}), devs, 0, aborted(0x0d02, 0))
	// Two places of the list may be one unit.
	l := List{Units: []string{"b", "b"}, Segs: []Seg{{0, 1, 1, 1, 4}}}
	wantRun(t, l, devs, 1, api.Result{})
	wantDevice(t, b, 1, 12, 13, 14, 12)
	// An empty serial is one like others.
	l = List{Units: []string{"", "a"}, Segs: []Seg{{0, 1, 1, 0, 3}}}
	wantRun(t, l, []Named{{Serial: "a", Dev: a}, {Dev: other}}, 1, api.Result{})
	wantDevice(t, a, 1, 2, 3, 21)
}

func TestUnitsThatAreShut(t *testing.T) {
	for shut := range 256 {
		for which := range 2 {
			a, b, devs := pair(t)
			devs[which].Shut = byte(shut)
			bad := which == 0 && shut&1 != 0 || which == 1 && shut&2 != 0
			wanted, count := api.Result{}, 2
			after := []byte{1, 2, 13, 14, 15}
			if bad {
				wanted, count, after = aborted(0x0d02, 0), 0, []byte{11, 12, 13, 14, 15}
			}
			wantRun(t, listOf(Seg{0, 1, 1, 0, 0}, Seg{0, 1, 1, 1, 1}), devs, count, wanted)
			wantDevice(t, a, 1, 2, 3, 4)
			wantDevice(t, b, after...)
		}
	}
	// A segment of nothing needs units that aren't shut, too; and that is told ahead of blocks that there are not.
	_, _, devs := pair(t)
	devs[1].Shut = 2
	wantRun(t, listOf(Seg{0, 1, 0, 0, 0}), devs, 0, aborted(0x0d02, 0))
	wantRun(t, listOf(Seg{0, 1, 1, 99, 0}), devs, 0, aborted(0x0d02, 0))
	wantRun(t, listOf(Seg{1, 0, 1, 0, 0}), devs, 1, api.Result{})
}

// A device that is none is there, and answers for itself.
func TestDevicesThatAreNone(t *testing.T) {
	a, _, devs := pair(t)
	odd, _ := device(t, 9, 0, 0, 0, 0)
	for _, x := range []struct {
		d    *sbc.Dev
		code uint16
	}{{nil, 0x2500}, {&sbc.Dev{}, 0x2500}, {odd, 0x2400}} {
		devs[1].Dev = x.d
		wantRun(t, listOf(Seg{0, 1, 1, 0, 0}), devs, 0, aborted(x.code, 0))
		wantRun(t, listOf(Seg{0, 0, 1, 0, 1}, Seg{1, 0, 1, 0, 0}), devs, 1, aborted(x.code, 1))
		wantDevice(t, a, 1, 1, 3, 4)
	}
}

func TestBlocksThatThereAreNot(t *testing.T) {
	for _, s := range []Seg{
		{0, 1, 1, 4, 0}, {0, 1, 5, 0, 0}, {0, 1, 1, 0, 5}, {0, 1, 2, 0, 4}, {0, 1, 257, 0, 0}, {0, 1, math.MaxInt, 0, 0},
		{0, 1, 1, math.MaxUint64, 0}, {0, 1, 1, 0, math.MaxUint64}, {0, 1, 2, math.MaxUint64, math.MaxUint64}, {0, 1, 1, 1 << 32, 0}, {0, 1, 1, 0, 1 << 32},
	} {
		a, b, devs := pair(t)
		wantRun(t, listOf(Seg{1, 0, 1, 0, 0}, Seg{1, 1, 1, 1, 0}, s, Seg{0, 1, 1, 2, 2}), devs, 2, aborted(0x2100, 2))
		wantDevice(t, a, 11, 2, 3, 4)
		wantDevice(t, b, 12, 12, 13, 14, 15)
	}
}

// A list needn't be one that parameters tell.
func TestMoreThanParametersTell(t *testing.T) {
	big, _ := device(t, 0, slices.Repeat([]byte{7}, 600)...)
	other, _ := device(t, 0, make([]byte, 600)...)
	devs := []Named{{Serial: "a", Dev: big}, {Serial: "b", Dev: other}}
	wantRun(t, listOf(Seg{0, 1, 500, 0, 0}), devs, 1, api.Result{})
	wantDevice(t, other, append(slices.Repeat([]byte{7}, 500), make([]byte, 100)...)...)
	segs := slices.Repeat([]Seg{{0, 1, 1, 0, 0}}, 40)
	segs[33].To = 9
	wantRun(t, listOf(segs...), devs, 33, aborted(0x0d02, 33))
	wantRun(t, List{Units: append(make([]string, 30), "a", "b"), Segs: []Seg{{30, 31, 1, 0, 599}}}, devs, 1, api.Result{})
}

// Protection: what is read is looked at, and what is written gets tuples of its own.
func TestRunWithProtection(t *testing.T) {
	for kind := range byte(4) {
		for other := range byte(4) {
			a, _ := device(t, kind, 1, 2, 3, 4)
			b, _ := device(t, other, 11, 12, 13, 14)
			devs := []Named{{Serial: "a", Dev: a}, {Serial: "b", Dev: b}}
			wantRun(t, listOf(Seg{0, 1, 2, 0, 2}), devs, 1, api.Result{})
			wantDevice(t, b, 11, 12, 1, 2)
			list, _, _ := a.Store.Read(1, 1)
			list[0].Tuple.Guard++
			a.Store.Write(1, list, true)
			count, wanted, after := 2, api.Result{}, []byte{3, 1, 2, 2}
			if kind != 0 {
				count, wanted, after = 1, aborted(0x1001, 1), []byte{3, 12, 1, 2}
			}
			wantRun(t, listOf(Seg{0, 1, 1, 2, 0}, Seg{0, 1, 2, 0, 1}), devs, count, wanted)
			wantDevice(t, b, after...)
		}
	}
}

// What is copied isn't made durable, and each segment makes its calls: a read and a write a block.
func TestCallsOfRun(t *testing.T) {
	a, wa := device(t, 1, 1, 2, 3, 4)
	b, wb := device(t, 1, 11, 12, 13, 14)
	devs := []Named{{Serial: "a", Dev: a}, {Serial: "b", Dev: b}}
	wantRun(t, listOf(Seg{0, 1, 2, 0, 0}, Seg{0, 1, 1, 3, 3}), devs, 2, api.Result{})
	if wa.Ops() != 3 || wb.Ops() != 3 || wb.Waits() != 3 {
		t.Errorf("calls %d, %d, waits %d", wa.Ops(), wb.Ops(), wb.Waits())
	}
	wb.Crash(0, 0)
	wantDevice(t, b, 11, 12, 13, 14)
}

// Files that fail, or lose their power, at each call.
func TestFilesThatFail(t *testing.T) {
	for call := range 6 {
		for _, stops := range []bool{false, true} {
			for _, reads := range []bool{true, false} {
				a, wa := device(t, 1, 1, 2, 3, 4)
				b, wb := device(t, 1, 11, 12, 13, 14)
				devs := []Named{{Serial: "a", Dev: a}, {Serial: "b", Dev: b}}
				w, code := wb, uint16(0x0c00)
				if reads {
					w, code = wa, 0x1100
				}
				if stops {
					w.Plan(nil, call)
				} else {
					w.Plan([]int{call}, -1)
				}
				// Three segments of two, one and two blocks.
				l := listOf(Seg{0, 1, 2, 0, 2}, Seg{0, 1, 1, 3, 1}, Seg{0, 1, 2, 1, 0})
				done := []int{0, 0, 1, 2, 2, 3}[call]
				wanted := aborted(code, done)
				if done == 3 {
					wanted = api.Result{}
				}
				wantRun(t, l, devs, done, wanted)
				wa.Crash(9, 0)
				wb.Crash(9, 0)
				after := [][]byte{{11, 12, 13, 14}, {11, 12, 1, 2}, {11, 4, 1, 2}, {2, 3, 1, 2}}[done]
				if !reads && (call == 1 || call == 4) {
					after = map[int][]byte{1: {11, 12, 1, 14}, 4: {2, 4, 1, 2}}[call]
				}
				wantDevice(t, a, 1, 2, 3, 4)
				wantDevice(t, b, after...)
			}
		}
	}
}

// P1: devices over stores that are none.
func TestStrangeDevicesDoNotPanic(t *testing.T) {
	over, _ := store.Open(&world.World{}, "d", 4, false)
	devs := []Named{{Serial: "a", Dev: &sbc.Dev{Store: &store.Store{}}}, {Serial: "b", Dev: &sbc.Dev{Store: over}}}
	for _, from := range []int{-1, 0, 1, 2} {
		for _, to := range []int{-1, 0, 1, 2} {
			for _, blocks := range []int{math.MinInt, 0, 1, math.MaxInt} {
				Run(listOf(Seg{from, to, blocks, 0, 0}, Seg{from, to, blocks, math.MaxUint64, 1}), devs)
			}
		}
	}
}

// Memory: what is handed in stays as it is.
func TestRunChangesNoArguments(t *testing.T) {
	_, _, devs := pair(t)
	l := listOf(Seg{0, 1, -5, 0, 0}, Seg{0, 1, 2, 0, 0}, Seg{9, 9, 9, 9, 9})
	ahead := slices.Clone(devs)
	Run(l, devs)
	if !alikeLists(l, listOf(Seg{0, 1, -5, 0, 0}, Seg{0, 1, 2, 0, 0}, Seg{9, 9, 9, 9, 9})) || !slices.Equal(devs, ahead) {
		t.Errorf("the arguments became %+v, %+v", l, devs)
	}
}
