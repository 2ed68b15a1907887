package target

import (
	"fmt"
	"math"
	"math/rand"
	"slices"
	"strings"
	"testing"

	"pallet/api"
	"pallet/task"
	"pallet/unit"
	"pallet/xcopy"
)

// A task begins.

func TestReportLuns(t *testing.T) {
	c := usual()
	c.Access = []Access{{0, 7, 0}, {0, 2, 1}, {1, 0, 0}, {0, 3, 1}, {0, 0, 2}}
	r := newRig(t, c)
	r.logIn(0, "i")
	r.logIn(1, "j")
	r.logIn(2, "k")
	all := []string{
		"00000020 00000000 0000000000000000 0002000000000000 0003000000000000 0007000000000000",
		"00000008 00000000 0000000000000000",
		"00000000 00000000",
	}
	for n, wanted := range all {
		// At once, whatever the nexus has still to be told, also to a unit that it doesn't see.
		for _, lun := range []byte{0, 1, 2, 7, 8, 255} {
			r.send(n, command(lun, 1, reads, 255, luns))
			r.wantNews(n, dataIn(1, wanted), good(1))
		}
		r.wantReady(0)
	}
	for i := range 3 {
		if r.Unit(i).Count() != 0 {
			t.Errorf("the unit %d was asked", i)
		}
	}
	// As many bytes as the command wants.
	whole := mustHex(all[0])
	for _, alloc := range []uint32{0, 1, 7, 8, 39, 40, 41, 256, 1 << 16, 1 << 24, 1 << 31, math.MaxUint32} {
		cdb := slices.Clone(luns)
		cdb[6], cdb[7], cdb[8], cdb[9] = byte(alloc>>24), byte(alloc>>16), byte(alloc>>8), byte(alloc)
		r.send(0, command(0, 2, reads, 64, cdb))
		cut := whole[:min(uint32(len(whole)), alloc)]
		if len(cut) == 0 {
			r.wantNews(0, good(2))
		} else {
			r.wantNews(0, fmt.Sprintf("data 2 %x", cut), good(2))
		}
	}
	// Of the command nothing else is looked at, nor are its attribute and its data.
	odd := fill(0xff, 16)
	copy(odd, mustHex("a0 ff ff ff ff ff 00 00 00 08"))
	r.send(0, command(0, 3, reads|writes|4, 3, odd, 1, 2, 3))
	list := r.news(0)
	if len(list) != 2 || len(list[0].Data) != 3 || list[1].Stat != 0 || list[1].Flags != 0x84 || list[1].Words[6] != 5 {
		t.Errorf("an odd one: %v", list)
	}
}

// P7: of a unit that a nexus doesn't see nothing is told, and nothing of it changes.
func TestUnitsThatAreNotSeen(t *testing.T) {
	r := twoIn(t)
	r.logIn(2, "k")
	counts := [3]int64{r.Unit(0).Count(), r.Unit(1).Count(), r.Unit(2).Count()}
	ops := r.w.Ops()
	for n, unseen := range [][]byte{{2, 3, 7, 8, 128, 255}, {1, 2, 6, 8, 255}, {0, 1, 2, 7, 8, 255}} {
		for _, lun := range unseen {
			for _, cdb := range [][]byte{ready, inquiry, read(0, 1), writeFUA(0, 1), prOut(6, 0), {0xff}} {
				r.send(n, command(lun, 1, reads|writes, 0, cdb), command(lun, 2, reads|4, 64, cdb))
				r.wantNews(n, noUnit(1), noUnit(2))
			}
		}
	}
	r.wantReady(0)
	for i, count := range counts {
		if got := r.Unit(i).Count(); got != count {
			t.Errorf("the unit %d was sent %d commands; want %d", i, got, count)
		}
	}
	if r.w.Ops() != ops {
		t.Errorf("the files were looked at")
	}
}

// A write to a unit that isn't seen has its data asked for ahead of its answer: the session doesn't know of units.
func TestUnseenBehindData(t *testing.T) {
	r := twoIn(t)
	r.send(0, command(5, 1, writes, 16, write(0, 1)))
	r.wantNews(0, "31 1")
	r.send(0, api.PDU{Op: 5, Flags: 0x80, Tag: 1, Words: [7]uint32{1}, Data: fill(1, 16)})
	r.wantNews(0, noUnit(1))
}

// The sense of no unit isn't described, whatever units say.
func TestDescribed(t *testing.T) {
	r := twoIn(t)
	cdb, out := describe()
	if got := r.Unit(0).Do(0, cdb, out); got.Status != api.Good || !r.Unit(0).Described() {
		t.Fatalf("MODE SELECT: %v", got)
	}
	r.send(0, command(0, 1, 0, 0, []byte{0xff}), command(1, 2, 0, 0, []byte{0xff}), command(2, 3, 0, 0, []byte{0xff}))
	r.send(1, command(0, 4, 0, 0, ready))
	r.runAll()
	r.wantNews(0, noUnit(3), "response 1 02 described 5 2000", "response 2 02 fixed 5 2000")
	r.wantNews(1, "response 4 02 described 6 2a01")
}

// How sense data are told is as the unit says behind the command.
func TestDescribedBehindCommand(t *testing.T) {
	r := twoIn(t)
	cdb, out := describe()
	cdb[1] |= 1 // it is to be kept, which fails
	r.send(0, command(0, 1, writes, len(out), cdb, out...))
	r.w.Plan([]int{0, 1, 2, 3}, -1)
	r.step(0)
	r.wantNews(0, "response 1 02 described 3 0c00")
}

func TestOneAnswerEach(t *testing.T) {
	for seed := range int64(300) {
		random := rand.New(rand.NewSource(seed))
		r := twoIn(t)
		wanted := [2]map[uint32]int{{}, {}}
		for tag := range uint32(14) {
			n := random.Intn(2)
			lun := []byte{0, 1, 7, 3}[random.Intn(4)]
			attr := byte(1 + random.Intn(4))
			r.send(n, command(lun, tag, reads|attr, 16, [][]byte{ready, read(1, 1), luns, {0xff}}[random.Intn(4)]))
			wanted[n][tag] = 1
			if random.Intn(3) == 0 && r.Ready() > 0 {
				r.step(random.Intn(100))
			}
		}
		for r.Ready() > 0 {
			r.step(random.Intn(100))
		}
		for n := range 2 {
			got := map[uint32]int{}
			for _, p := range r.news(n) {
				if p.Op == 0x21 {
					got[p.Tag]++
				}
			}
			if fmt.Sprint(got) != fmt.Sprint(wanted[n]) {
				t.Fatalf("seed %d: the answers over %d: %v; want %v", seed, n, got, wanted[n])
			}
		}
	}
}

// Tasks of each attribute.

func TestAttributes(t *testing.T) {
	r := twoIn(t)
	r.send(0, plainTask(0, 1, 1), plainTask(0, 2, 0), plainTask(0, 3, 2), plainTask(0, 4, 5), plainTask(0, 5, 7))
	r.wantReady(2)
	// Another unit's tasks don't wait for these.
	r.send(0, plainTask(1, 6, 2), plainTask(1, 7, 1))
	r.wantReady(3)
	r.send(1, plainTask(0, 1, 3))
	r.wantReady(2) // the Head of the one unit, the Ordered of the other one
	r.step(1)      // the Head came last
	r.wantNews(1, good(1))
	r.wantReady(3)
	r.step(2)
	r.wantNews(0, good(6))
	r.step(1)
	r.step(0)
	r.wantNews(0, good(2), good(1))
	r.wantReady(2) // the Ordered one, and the Simple one of the other unit
	r.step(0)
	r.wantNews(0, good(3))
	r.wantReady(3)
	r.step(2)
	r.step(0)
	r.step(0)
	r.wantNews(0, good(7), good(4), good(5))
	r.wantReady(0)
}

// Without an allegiance nothing comes in for one.
func TestForACA(t *testing.T) {
	r := twoIn(t)
	r.send(0, plainTask(0, 1, 4))
	r.wantNews(0, "response 1 30")
	r.wantReady(0)
	r.send(0, plainTask(0, 1, 1))
	r.wantReady(1)
}

func TestFullSet(t *testing.T) {
	r := twoIn(t)
	for tag := range uint32(16) {
		r.send(int(tag%2), plainTask(0, tag, 1))
	}
	r.wantReady(16)
	r.send(0, plainTask(0, 100, 1), plainTask(0, 101, 3), plainTask(0, 102, 4), plainTask(1, 103, 1))
	r.wantNews(0, "response 100 28", "response 101 28", "response 102 30")
	r.wantReady(17)
	r.step(0)
	r.wantNews(0, good(0))
	r.send(0, plainTask(0, 100, 1), plainTask(0, 101, 1))
	r.wantNews(0, "response 101 28")
	r.wantReady(17)
	// The other nexus is kept off by it, too.
	r.send(1, plainTask(0, 104, 1), plainTask(7, 105, 1))
	r.wantNews(1, "response 104 28")
	r.wantReady(18)
}

// A tag that is there is refused; another nexus' is another one.
func TestTagThatIsThere(t *testing.T) {
	r := twoIn(t)
	r.send(0, plainTask(0, 1, 1), plainTask(0, 1, 1), plainTask(1, 1, 1), command(3, 1, 0, 0, ready))
	r.wantNews(0, "refused 9", "refused 9", "refused 9")
	r.send(1, plainTask(0, 1, 1))
	r.wantReady(2)
	r.step(1)
	r.wantNews(1, good(1))
	r.step(0)
	r.wantNews(0, good(1))
	r.send(0, plainTask(0, 1, 1))
	r.wantReady(1)
}

// A set that has the task already, as no session lets it come to, refuses it: the command is answered, and is no job.
func TestSetThatHasTheTask(t *testing.T) {
	r := twoIn(t)
	if status, e := r.sets[0].Enter(task.Task{Nexus: 0, Tag: 5}); status != api.Good || e != api.OK {
		t.Fatalf("Enter = %d, %d", status, e)
	}
	r.send(0, plainTask(0, 5, 1))
	r.wantNews(0, "response 5 40")
	r.wantReady(0) // what the set has is no job
	// It was answered, so its tag is free; another unit's set, and another nexus' task, are others.
	r.send(0, plainTask(0, 5, 1), plainTask(1, 5, 1))
	r.wantNews(0, "response 5 40")
	r.send(1, plainTask(0, 5, 1))
	r.wantReady(2)
	r.runAll()
	r.wantNews(0, good(5))
	r.wantNews(1, good(5))
}

// While an allegiance stands only what comes for it, of its own nexus, is let in; the unit's reset ends it.
func TestAllegiance(t *testing.T) {
	r := twoIn(t)
	r.send(0, plainTask(0, 1, 1))
	if e := r.sets[0].Establish(1); e != api.OK {
		t.Fatalf("Establish = %d", e)
	}
	r.wantReady(0)
	r.send(0, plainTask(0, 2, 3), plainTask(0, 3, 4), plainTask(1, 4, 1))
	r.wantNews(0, "response 2 30", "response 3 30")
	r.send(1, plainTask(0, 2, 1), plainTask(0, 3, 4))
	r.wantNews(1, "response 2 30")
	r.wantReady(2)
	r.step(1)
	r.wantNews(1, good(3))
	r.send(0, function(0, 9, 5, 0), plainTask(0, 5, 1))
	r.wantNews(0, "told 9 0")
	r.wantReady(2)
	r.runAll()
	r.wantNews(0, good(4), powerOn(5))
}

// Step.

func TestStepPicks(t *testing.T) {
	for _, pick := range []int{0, 1, 2, 3, 4, 5, 6, 7, 8, 9, 10, 1000, math.MaxInt - 1, math.MaxInt} {
		r := twoIn(t)
		// In the order in which they came, whichever unit's they are.
		r.send(0, plainTask(1, 1, 1))
		r.send(1, plainTask(0, 2, 1))
		r.send(0, plainTask(0, 3, 2), plainTask(1, 4, 1))
		r.send(1, plainTask(7, 5, 1))
		r.wantReady(4)
		wanted := []struct {
			n   int
			tag uint32
		}{{0, 1}, {1, 2}, {0, 4}, {1, 5}}[pick%4]
		r.step(pick)
		r.wantNews(wanted.n, good(wanted.tag))
		r.wantNews(1 - wanted.n)
		left := 3
		if wanted.tag == 2 {
			left = 4
		}
		r.wantReady(left)
	}
}

func TestStepErrors(t *testing.T) {
	r := twoIn(t)
	for _, pick := range []int{0, 1, math.MaxInt} {
		wantDo(t, r.Target, Event{Kind: Step, Pick: pick}, api.ErrNone)
	}
	for _, pick := range []int{-1, -2, math.MinInt} {
		wantDo(t, r.Target, Event{Kind: Step, Pick: pick}, api.ErrArg)
		r.send(0, plainTask(0, 1, 1))
		wantDo(t, r.Target, Event{Kind: Step, Pick: pick}, api.ErrArg)
		r.wantReady(1)
		r.news(0)
	}
	wantDo(t, r.Target, Event{Kind: Step, Conn: -1, Cut: -1, Data: fill(1, 3)}, api.OK)
	r.wantNews(0, good(1))
}

// Each command is done at its step, with its data and for its nexus.
func TestStepDoes(t *testing.T) {
	r := twoIn(t)
	r.send(0, command(0, 1, writes, 16, write(2, 1), fill(5, 16)...))
	r.send(1, command(0, 2, reads, 16, read(2, 1)), command(0, 3, reads, 16, read(2, 1)))
	r.step(1)
	r.wantNews(1, dataIn(2, strings.Repeat("00", 16)), good(2))
	r.step(0)
	r.step(0)
	r.wantNews(1, dataIn(3, strings.Repeat("05", 16)), good(3))
	r.wantNews(0, good(1))
	// Who registers is the nexus that asks; P6: who is kept off changes nothing.
	r.send(1, command(0, 4, writes, 24, prOut(6, 0), keys(0, 9, false)...), command(0, 5, writes, 24, prOut(1, 3), keys(9, 0, false)...))
	r.step(0)
	r.step(0)
	regs, kind, holder := r.Unit(0).Table()
	if !slices.Equal(regs, []api.Reg{{Nexus: 1, Key: 9}}) || kind != 3 || holder != 1 {
		t.Errorf("the table is %v, %d, %d", regs, kind, holder)
	}
	r.send(0, command(0, 6, writes, 16, writeFUA(2, 1), fill(6, 16)...), command(0, 7, reads, 16, read(2, 1)))
	r.runAll()
	r.wantNews(0, "response 6 18", "response 7 18")
	r.news(1)
	r.send(1, command(0, 8, reads, 16, read(2, 1)))
	r.step(0)
	r.wantNews(1, dataIn(8, strings.Repeat("05", 16)), good(8))
}

// Copies reach all other units, in order: of two with the same serial the first one.
func TestPeers(t *testing.T) {
	c := Config{
		Units:      []unit.Config{unitConfig("A", 4), unitConfig("B", 4), unitConfig("C", 4), unitConfig("B", 4)},
		Initiators: []string{"i"},
		Access:     []Access{{0, 0, 2}},
		Login:      usual().Login,
	}
	for _, again := range []bool{false, true} {
		r := newRig(t, c).awake()
		if again {
			r.crash(0, 0)
			r.awake()
		}
		for at, u := range []byte{1, 2, 3, 4} {
			r.Unit(at).Do(0, write(0, 1), fill(u, 16))
		}
		r.logIn(0, "i")
		list, e := xcopy.Bytes(xcopy.List{Units: []string{"C", "B", "A"}, Segs: []xcopy.Seg{{From: 1, To: 0, Blocks: 1, Dst: 1}, {From: 2, To: 0, Blocks: 1, Dst: 2}}})
		if e != api.OK {
			t.Fatalf("xcopy.Bytes = %d", e)
		}
		cdb := make([]byte, 16)
		cdb[0], cdb[13] = 0x83, byte(len(list))
		r.send(0, command(0, 1, writes, len(list), cdb, list...), command(0, 2, reads|2, 64, read(0, 3)))
		r.step(0)
		r.step(0)
		r.wantNews(0, good(1), dataIn(2, strings.Repeat("03", 16)+strings.Repeat("02", 16)+strings.Repeat("01", 16)), good(2))
	}
}

// Functions.

func TestFunctionsWithoutUnit(t *testing.T) {
	r := twoIn(t)
	r.send(0, plainTask(0, 1, 1), plainTask(1, 2, 1))
	for _, lun := range []byte{2, 7, 8, 255} {
		for code := range 128 {
			r.send(0, function(lun, 3, byte(code), 1))
			r.wantNews(0, "told 3 2")
		}
	}
	r.wantReady(2)
}

func TestFunctionsThatAreNone(t *testing.T) {
	r := twoIn(t)
	r.send(0, plainTask(0, 1, 1))
	for code := range 128 {
		if code == 1 || code == 2 || code == 5 {
			continue
		}
		r.send(0, function(0, 3, byte(code), 1))
		r.wantNews(0, "told 3 5")
		// Without the bit 80 it is the same one.
		p := function(0, 4, byte(code), 1)
		p.Flags &^= 0x80
		r.send(0, p)
		r.wantNews(0, "told 4 5")
	}
	r.wantReady(1)
	r.step(0)
	r.wantNews(0, good(1))
}

func TestAbort(t *testing.T) {
	r := twoIn(t)
	r.send(0, plainTask(0, 1, 1), plainTask(0, 2, 2), plainTask(0, 3, 1), plainTask(1, 4, 1))
	r.send(1, plainTask(0, 2, 1), plainTask(0, 5, 1))
	r.wantReady(2)
	// Neither another nexus' task, nor another unit's, nor one that isn't there.
	r.send(0, function(0, 10, 1, 5), function(0, 11, 1, 4), function(0, 12, 1, 99), function(1, 13, 1, 2))
	r.wantNews(0, "told 10 1", "told 11 1", "told 12 1", "told 13 1")
	r.wantReady(2)
	r.send(0, function(0, 14, 1, 2))
	r.wantNews(0, "told 14 0")
	r.wantReady(5)
	r.send(0, function(0, 15, 1, 2))
	r.wantNews(0, "told 15 1")
	r.runAll()
	r.wantNews(0, good(1), good(3), good(4))
	r.wantNews(1, good(2), good(5))
	// It is forgotten: its tag may come again.
	r.send(0, plainTask(0, 2, 1))
	r.wantReady(1)
	r.step(0)
	r.wantNews(0, good(2))
}

// A write that waits for its data is no task yet.
func TestAbortOfWaitingWrite(t *testing.T) {
	r := twoIn(t)
	r.send(0, command(0, 1, writes, 16, write(0, 1)), function(0, 2, 1, 1), function(0, 3, 2, 0), function(0, 4, 5, 0))
	r.wantNews(0, "31 1", "told 2 1", "told 3 0", "told 4 0")
	r.send(0, api.PDU{Op: 5, Flags: 0x80, Tag: 1, Words: [7]uint32{1}, Data: fill(1, 16)})
	r.wantReady(1)
	r.step(0)
	r.wantNews(0, powerOn(1))
}

func TestAbortAll(t *testing.T) {
	r := twoIn(t)
	r.send(0, function(0, 9, 2, 0))
	r.wantNews(0, "told 9 0")
	r.send(0, plainTask(0, 1, 1), plainTask(0, 2, 2), plainTask(0, 3, 3), plainTask(1, 4, 1))
	r.send(1, plainTask(0, 1, 1))
	r.wantReady(2)
	r.send(0, function(0, 10, 2, 1))
	r.wantNews(0, "told 10 0")
	r.wantReady(2)
	r.send(0, plainTask(0, 1, 1), plainTask(0, 2, 1), plainTask(0, 3, 1), plainTask(0, 4, 1))
	r.wantNews(0, "refused 9")
	r.runAll()
	r.wantNews(0, good(4), good(1), good(2), good(3))
	r.wantNews(1, good(1))
}

func TestReset(t *testing.T) {
	r := twoIn(t)
	r.send(0, plainTask(0, 1, 2), plainTask(1, 2, 1))
	r.send(1, plainTask(0, 1, 1), plainTask(7, 3, 1), command(0, 4, 0, 0, ready))
	r.wantReady(3)
	r.send(0, function(0, 10, 5, 77))
	r.wantNews(0, "told 10 0")
	r.wantNews(1)
	r.wantReady(2)
	r.runAll()
	r.wantNews(0, good(2))
	r.wantNews(1, good(3))
	// Both sessions have forgotten, and both are told of the power by this unit alone.
	r.send(0, plainTask(0, 1, 1), plainTask(1, 2, 1))
	r.send(1, plainTask(0, 1, 1), plainTask(0, 4, 1), plainTask(7, 3, 1))
	r.runAll()
	r.wantNews(0, powerOn(1), good(2))
	r.wantNews(1, powerOn(1), good(4), good(3))
}

// Functions and commands begin in the order in which they came.
func TestBeginInOrder(t *testing.T) {
	r := twoIn(t)
	first := plainTask(0, 1, 1)
	first.Op, first.Words[1] = 1, 5
	abort := function(0, 2, 1, 1)
	abort.Op, abort.Words[1] = 2, 6
	list := command(0, 3, reads, 8, luns)
	list.Op, list.Words[1] = 1, 7
	late := plainTask(0, 4, 1)
	late.Op, late.Words[1] = 1, 8
	probe := nop(5)
	probe.Op, probe.Words[1] = 0, 9
	r.send(0, probe, late, list, abort)
	r.wantNews(0)
	r.send(0, first)
	// What the session itself answers goes out ahead of what its tasks tell.
	r.wantNews(0, "20 5", "told 2 0", dataIn(3, "0000001000000000"), good(3))
	r.wantReady(1)
	r.step(0)
	r.wantNews(0, good(4))
}

// A connection that is gone while its tasks wait.
func TestGoneWhileTasksWait(t *testing.T) {
	for _, how := range []string{"drop", "logout", "fault", "second login"} {
		r := twoIn(t)
		r.send(0, plainTask(0, 1, 3), command(1, 2, writes, 16, writeFUA(0, 1), fill(9, 16)...))
		r.send(1, plainTask(0, 1, 1), plainTask(7, 2, 1))
		r.wantReady(3)
		switch how {
		case "drop":
			r.do(Event{Kind: Drop})
		case "logout":
			r.send(0, logout(9))
		case "fault":
			r.do(Event{Kind: Bytes, Data: fill(0xff, 48)})
		case "second login":
			r.logIn(5, "i")
			r.do(Event{Kind: Drop, Conn: 5})
		}
		r.wantThere(0, false)
		r.wantNexus(-1, 1)
		r.wantReady(2)
		// Somebody else over the same connection isn't told of them.
		r.logIn(0, "k")
		r.wantNexus(2, 1)
		r.runAll()
		r.wantNews(0)
		r.wantNews(1, good(1), good(2))
		if got := r.Unit(1).Do(0, read(0, 1), nil); !slices.Equal(got.Data, fill(0, 16)) {
			t.Errorf("%s: the write was done: %v", how, got)
		}
		r.logIn(2, "i")
		r.send(2, plainTask(0, 1, 1))
		r.step(0)
		r.wantNews(2, good(1))
	}
}
