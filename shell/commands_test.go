package shell

import (
	"encoding/hex"
	"fmt"
	"strings"
	"testing"

	"pallet/api"
	"pallet/xcopy"
)

// P23.2: what each command does and answers.

// cmd

func TestCmdAnswers(t *testing.T) {
	s := awake(t)
	one := block("11")
	want(t, s, "cmd 0 "+ready, "0")
	want(t, s, "cmd 0 "+write(1)+" "+one, "0")
	want(t, s, "cmd 7 "+read(1), "0 "+one)
	want(t, s, "cmd 007 28000000000100000200", "0 "+one+block("00"))
	want(t, s, "cmd 0 28000000000100000000", "0")
	want(t, s, "cmd 0 "+block("2f"), "2 5 2400")
	want(t, s, "cmd 1 5e000000000000000800", "0 0000000000000000")
}

func TestCmdOfNoNexus(t *testing.T) {
	s := New()
	for _, nexus := range []string{"8", "9", "008", "000000010", "255", "256", "264", "999999999"} {
		want(t, s, "cmd "+nexus+" "+ready, "2 5 2500")
		want(t, s, "cmd "+nexus+" 120000002400", "2 5 2500")
		want(t, s, "sense", "logical unit not supported")
	}
	wake(t, s)
}

// What each answer looks like, whatever a unit may bring.
func TestTold(t *testing.T) {
	why := api.Sense{Key: 6, Code: 0x2900}
	for _, one := range []struct {
		r      api.Result
		wanted string
	}{
		{api.Result{}, "0"},
		{api.Result{Data: []byte{}}, "0"},
		{api.Result{Data: []byte{0}}, "0 00"},
		{api.Result{Data: []byte{0, 1, 0xab, 0xff, 0x10}}, "0 0001abff10"},
		{api.Result{Status: api.Check}, "2 0 0000"},
		{api.Result{Status: api.Check, Sense: why}, "2 6 2900"},
		{api.Result{Status: api.Check, Sense: why, Data: []byte{0x0a}}, "2 6 2900 0a"},
		{api.Result{Status: api.Check, Sense: api.Sense{Key: api.CopyAborted, Code: api.CopyTarget, Info: 3, HasInfo: true}}, "2 10 0d02"},
		{api.Result{Status: api.Check, Sense: api.Sense{Key: api.AbortedCmd, Code: api.RefFailed}}, "2 11 1003"},
		{api.Result{Status: api.Check, Sense: api.Sense{Key: api.Miscompare, Code: api.Miscompared}}, "2 14 1d00"},
		{api.Result{Status: api.Check, Sense: api.Sense{Key: 255, Code: 0xffff}}, "2 255 ffff"},
		{api.Result{Status: api.Check, Sense: api.Sense{Code: 0x000b}}, "2 0 000b"},
		{api.Result{Status: api.Conflict}, "24"},
		{api.Result{Status: api.Conflict, Sense: why}, "24"},
		{api.Result{Status: api.SetFull}, "40"},
		{api.Result{Status: api.ACA}, "48"},
		{api.Result{Status: api.Aborted, Data: []byte{7}}, "64 07"},
		{api.Result{Status: 255}, "255"},
	} {
		if got := told(one.r); got != one.wanted {
			t.Errorf("told(%+v) = %q; want %q", one.r, got, one.wanted)
		}
	}
}

// Checks with each key that a unit's commands end with here.
func TestCmdChecks(t *testing.T) {
	s := awake(t)
	want(t, s, "cmd 0 "+read(64), "2 5 2100")
	want(t, s, "cmd 0 ff", "2 5 2000")
	want(t, s, "cmd 0 2820000000000000"+"0100", "2 5 2400")
	want(t, s, "cmd 0 8900000000000000000000000001"+"0000 "+block("00")+block("33"), "0")
	want(t, s, "cmd 0 8900000000000000000000000001"+"0000 "+block("00")+block("44"), "2 14 1d00")
	want(t, s, "sense", "miscompare during verify operation")
	want(t, s, "cmd 0 "+read(0), "0 "+block("33"))
	want(t, s, "cmd 0 "+copyCmd(t, "S0", "S1"), "2 10 0d02")
	want(t, s, "sense", "copy target device not reachable")
	want(t, s, "cmd 0 "+copyCmd(t, "S0", "S0"), "0")
	want(t, s, "cmd 1 "+read(5), "0 "+block("33"))
	// Of the calls that are counted now, that of the read fails, then that of the write.
	want(t, s, "plan 0 2", "")
	want(t, s, "cmd 0 "+read(0), "2 3 1100")
	want(t, s, "cmd 0 "+write(0)+" "+block("55"), "2 3 0c00")
	want(t, s, "sense", "write error")
	want(t, s, "cmd 0 "+read(0), "0 "+block("33"))
	want(t, s, "cmd 0 150000001000 00", "2 5 2400")
	want(t, s, "cmd 0 151000001000 "+"00000000"+"0a0a00000800000000000000", "0")
	want(t, s, "cmd 0 "+write(0)+" "+block("55"), "2 7 2700")
	want(t, s, "cmd 1 "+ready, "2 6 2a01")
	want(t, s, "sense", "mode parameters changed")
}

// copyCmd tells a copy of the block 0 of one unit to the block 5 of another one, with what comes with it.
func copyCmd(t *testing.T, from, to string) string {
	t.Helper()
	p, e := xcopy.Bytes(xcopy.List{Units: []string{from, to}, Segs: []xcopy.Seg{{From: 0, To: 1, Blocks: 1, Src: 0, Dst: 5}}})
	if e != api.OK {
		t.Fatalf("Bytes = %d", e)
	}
	return fmt.Sprintf("83000000000000000000%08x0000 %s", len(p), hex.EncodeToString(p))
}

// A unit whose files can't be read at first is not ready for ever, or till the next one.
func TestCmdNotReady(t *testing.T) {
	s := New()
	want(t, s, "plan 0 2", "")
	want(t, s, "cmd 0 "+ready, "2 2 0000")
	want(t, s, "sense", "no additional sense information")
	want(t, s, "plan 0 0", "")
	want(t, s, "cmd 0 "+ready, "2 2 0000")
	want(t, s, "crash 0 0", "")
	want(t, s, "cmd 0 "+ready, "2 6 2900")
}

// Every nexus is one of its own.
func TestCmdOfEachNexus(t *testing.T) {
	s := New()
	wake(t, s)
	for nexus := range 8 {
		want(t, s, fmt.Sprintf("cmd %d %s %s", nexus, prOut("06", "00"), keys(0, uint64(nexus)+1, false)), "0")
	}
	want(t, s, "regs", "0 -1 0:1 1:2 2:3 3:4 4:5 5:6 6:7 7:8")
}

// What comes with a command, and what the unit does without it.
func TestCmdWithAndWithoutBytes(t *testing.T) {
	s := awake(t)
	want(t, s, "cmd 0 "+write(3), "2 5 1a00")
	want(t, s, "cmd 0 "+write(3)+" ", "2 5 1a00")
	want(t, s, "cmd 0 "+write(3)+" "+block("77"), "0")
	want(t, s, "cmd 0 "+write(3)+" "+block("88")+"88", "2 5 1a00")
	want(t, s, "cmd 0 "+read(3)+" "+block("99"), "0 "+block("77"))
	want(t, s, "cmd 0 42000000000000000000", "0")
}

// Data of other commands; who the unit is.
func TestWhoTheUnitIs(t *testing.T) {
	s := New()
	inquiry := "cmd 0 12000000ff00"
	want(t, s, inquiry, "0 000006021f000002"+text("PALLET", 8)+text("SHELL", 16)+text("1", 4))
	want(t, s, "cmd 0 12018000ff00", "0 00800002"+text("S0", 2))
	wake(t, s)
	want(t, s, "cmd 0 "+readCapacity, "0 0000003f00000010")
	want(t, s, "cmd 0 "+writeFUA(0)+" "+block("00"), "0")
	if names := s.world.Names(); len(names) != 1 || names[0] != "s.d" {
		t.Errorf("the files are %v", names)
	}
	want(t, s, "unit 5 2", "")
	want(t, s, inquiry, "0 000006021f010002"+text("PALLET", 8)+text("SHELL", 16)+text("1", 4))
	want(t, s, "cmd 0 12018000ff00", "0 00800002"+text("S0", 2))
	want(t, s, "crash 0 0", "")
	want(t, s, inquiry, "0 000006021f010002"+text("PALLET", 8)+text("SHELL", 16)+text("1", 4))
	wake(t, s)
	want(t, s, "cmd 0 "+readCapacity, "0 0000000400000010")
}

// crash

// How many changes are kept, and how many bytes of the next one.
func TestCrashKeeps(t *testing.T) {
	old, now := block("11"), block("22")
	for _, one := range []struct{ line, first, second string }{
		{"crash 0 0", old, old},
		{"crash 1 0", now, old},
		{"crash 2 0", now, now},
		{"crash 3 0", now, now},
		{"crash 999999999 999999999", now, now},
		{"crash 0 1", old, old}, // the mark alone
		{"crash 0 2", "22" + old[2:], old},
		{"crash 0 3", "2222" + old[4:], old},
		{"crash 0 17", now, old},
		{"crash 0 25", now, old},
		{"crash 0 999999999", now, old},
		{"crash 1 3", now, "2222" + old[4:]},
		{"crash 01 000000003", now, "2222" + old[4:]},
		{"crash 1 999999999", now, now},
		{"crash 2 999999999", now, now},
	} {
		s := awake(t)
		want(t, s, "cmd 0 "+writeFUA(0)+" "+old, "0")
		want(t, s, "cmd 0 "+writeFUA(1)+" "+old, "0")
		want(t, s, "cmd 0 "+write(0)+" "+now, "0")
		want(t, s, "cmd 0 "+write(1)+" "+now, "0")
		if s.world.Waits() != 2 {
			t.Fatalf("%d changes wait", s.world.Waits())
		}
		want(t, s, one.line, "")
		want(t, s, "ops", "0 0")
		wake(t, s)
		want(t, s, "cmd 0 "+read(0), "0 "+one.first)
		want(t, s, "cmd 0 "+read(1), "0 "+one.second)
	}
}

// What was told done is there behind every loss of power (P5); what lasts of reservations, and pages that were saved, too.
func TestCrashLeavesWhatLasts(t *testing.T) {
	s := awake(t)
	want(t, s, "cmd 0 "+writeFUA(0)+" "+block("aa"), "0")
	want(t, s, "cmd 0 "+write(1)+" "+block("bb"), "0")
	want(t, s, "cmd 0 "+syncCache, "0")
	want(t, s, "cmd 0 "+write(2)+" "+block("cc"), "0")
	want(t, s, "sync", "")
	want(t, s, "cmd 0 "+write(3)+" "+block("dd"), "0")
	want(t, s, "crash 0 0", "")
	wake(t, s)
	for lba, digits := range []string{"aa", "bb", "cc", "00"} {
		want(t, s, "cmd 0 "+read(lba), "0 "+block(digits))
	}
	want(t, s, "cmd 3 "+prOut("06", "00")+" "+keys(0, 0x10, true), "0")
	want(t, s, "cmd 3 "+prOut("01", "01")+" "+keys(0x10, 0, false), "0")
	want(t, s, "crash 0 0", "")
	want(t, s, "cmd 0 "+write(0)+" "+block("ee"), "2 6 2900")
	want(t, s, "cmd 0 "+write(0)+" "+block("ee"), "24")
	want(t, s, "cmd 0 "+read(0), "0 "+block("aa"))
	want(t, s, "regs", "1 3 3:10")
	want(t, s, "cmd 3 "+prOut("06", "00")+" "+keys(0, 0x10, false), "2 6 2900")
	want(t, s, "cmd 3 "+prOut("06", "00")+" "+keys(0, 0x10, false), "0")
	want(t, s, "crash 0 0", "")
	want(t, s, "cmd 0 "+ready, "2 6 2900")
	want(t, s, "regs", "0 -1")
}

// The table is the unit's, which has not started behind a crash; the last command's sense is still that one's.
func TestCrashMakesANewUnit(t *testing.T) {
	s := busy(t)
	before := s.unit
	want(t, s, "sense", "logical block address out of range")
	want(t, s, "crash 0 0", "")
	if s.unit == before || s.unit.Count() != 0 {
		t.Errorf("the unit is the one ahead of the crash")
	}
	want(t, s, "sense", "logical block address out of range")
	want(t, s, "regs", "0 -1")
	want(t, s, "ops", "0 0")
	want(t, s, "cmd 0 "+ready, "2 6 2900")
	want(t, s, "regs", "5 2 2:ab")
}

// No call is to fail behind a crash.
func TestCrashEndsAPlan(t *testing.T) {
	s := awake(t)
	want(t, s, "plan 0 1000", "")
	wantSync(t, s, api.ErrIO)
	want(t, s, "crash 0 0", "")
	wantSync(t, s, api.OK)
	want(t, s, "ops", "1 0")
}

// plan

// wantSync has all made durable, or fail to be; either way the call is counted, if the power is on.
func wantSync(t *testing.T, s *Shell, wanted api.Errno) {
	t.Helper()
	ops := s.world.Ops()
	if got := s.Line("sync"); got != (Reply{E: wanted}) {
		t.Fatalf("sync, the call %d = %+v; want %d", ops, got, wanted)
	}
	if s.world.Ops() != ops+1 {
		t.Fatalf("%d calls became %d", ops, s.world.Ops())
	}
}

func TestPlan(t *testing.T) {
	for _, one := range []struct {
		line        string
		first, last int // of those that fail
	}{
		{"plan 0 0", 0, -1},
		{"plan 5 0", 0, -1},
		{"plan 0 1", 0, 0},
		{"plan 1 1", 1, 1},
		{"plan 2 3", 2, 4},
		{"plan 3 2", 3, 4},
		{"plan 007 009", 7, 15},
		{"plan 0 999", 0, 998},
		{"plan 0 1000", 0, 999},
		{"plan 0 1001", 0, 999},
		{"plan 3 1001", 3, 1002},
		{"plan 10 999999999", 10, 1009},
		{"plan 999999999 1", 0, -1},
		{"plan 999999999 999999999", 0, -1},
	} {
		s := awake(t)
		want(t, s, "cmd 0 "+write(0)+" "+block("11"), "0")
		want(t, s, "sync", "")
		want(t, s, one.line, "")
		want(t, s, "ops", "0 0")
		for call := range 1020 {
			wanted := api.OK
			if call >= one.first && call <= one.last {
				wanted = api.ErrIO
			}
			wantSync(t, s, wanted)
		}
		if s.world.Off() {
			t.Errorf("%s: the power went off", one.line)
		}
	}
}

// The numbers of calls that are far off.
func TestPlanFarOff(t *testing.T) {
	s := awake(t)
	want(t, s, "plan 100000 2", "")
	for call := range 100005 {
		wanted := api.OK
		if call == 100000 || call == 100001 {
			wanted = api.ErrIO
		}
		wantSync(t, s, wanted)
	}
}

// A plan is the one that holds: what was to fail ahead of it does not, what waits still waits.
func TestPlanAnew(t *testing.T) {
	s := awake(t)
	want(t, s, "cmd 0 "+write(0)+" "+block("11"), "0")
	want(t, s, "plan 0 9", "")
	wantSync(t, s, api.ErrIO)
	want(t, s, "ops", "1 1")
	want(t, s, "plan 1 1", "")
	want(t, s, "ops", "0 1")
	wantSync(t, s, api.OK)
	want(t, s, "ops", "1 0")
	wantSync(t, s, api.ErrIO)
	wantSync(t, s, api.OK)
}

// unit

func TestUnitSizes(t *testing.T) {
	for _, blocks := range []int{1, 2, 63, 64, 65, 4095, 4096} {
		for prot := range 4 {
			s := busy(t)
			want(t, s, fmt.Sprintf("unit %d %d", blocks, prot), "")
			want(t, s, "ops", "0 0")
			want(t, s, "regs", "0 -1")
			want(t, s, "sense", "no additional sense information")
			wake(t, s)
			want(t, s, "cmd 0 "+readCapacity, fmt.Sprintf("0 %08x00000010", blocks-1))
			want(t, s, "cmd 0 "+read(blocks-1), "0 "+block("00"))
			want(t, s, "cmd 0 "+read(blocks), "2 5 2100")
			wantProt(t, s, prot)
			want(t, s, "crash 0 0", "")
			wake(t, s)
			want(t, s, "cmd 0 "+readCapacity, fmt.Sprintf("0 %08x00000010", blocks-1))
			wantProt(t, s, prot)
		}
	}
}

// wantProt looks which type of protection a unit has.
func wantProt(t *testing.T, s *Shell, prot int) {
	t.Helper()
	r := s.Line("cmd 0 9e10" + "0000000000000000" + "00000020" + "0000")
	if len(r.Text) != 2+64 || r.Text[2+24:2+26] != []string{"00", "01", "03", "05"}[prot] {
		t.Errorf("the capacity with the protection %d: %+v", prot, r)
	}
	wanted := "2 5 2400"
	if prot > 0 {
		wanted = "0 " + block("00") + "ffffffffffffffff"
	}
	want(t, s, "cmd 0 28200000000000000100", wanted)
}

func TestUnitsThatCannotBe(t *testing.T) {
	s := busy(t)
	for _, blocks := range []string{"0", "000", "4097", "5000", "65536", "65540", "999999999"} {
		for _, prot := range []string{"0", "3", "4", "255", "256", "259", "999999999"} {
			wantFault(t, s, "unit "+blocks+" "+prot, api.ErrArg, 0)
			wantFault(t, s, "  unit   "+blocks+" "+prot+" ", api.ErrArg, 0)
		}
	}
	for _, blocks := range []string{"1", "64", "4096"} {
		for _, prot := range []string{"4", "5", "254", "255", "256", "257", "258", "259", "260", "511", "512", "65536", "16777216", "999999999"} {
			wantFault(t, s, "unit "+blocks+" "+prot, api.ErrForm, 0)
		}
	}
	want(t, s, "sense", "logical block address out of range")
	want(t, s, "regs", "5 2 2:ab")
	want(t, s, "cmd 2 "+read(1), "0 "+block("11"))
	want(t, s, "cmd 2 "+read(2), "0 "+block("22"))
}

// The world is a new one: no files, no plan, the power on.
func TestUnitMakesANewWorld(t *testing.T) {
	s := busy(t)
	want(t, s, "plan 0 1000", "")
	world, unit := s.world, s.unit
	want(t, s, "unit 64 0", "")
	if s.world == world || s.unit == unit || len(s.world.Names()) != 0 {
		t.Errorf("the world or the unit is the one ahead")
	}
	wantSync(t, s, api.OK)
	wake(t, s)
	want(t, s, "cmd 0 "+read(1), "0 "+block("00"))
	want(t, s, "cmd 0 "+write(1)+" "+block("44"), "0")
	s.world.Plan(nil, 0)
	if r := s.Line("sync"); r != (Reply{E: api.ErrCrash}) {
		t.Errorf("sync with the power off = %+v", r)
	}
	want(t, s, "unit 64 0", "")
	wantSync(t, s, api.OK)
}

// sense

func TestSense(t *testing.T) {
	const none = "no additional sense information"
	s := New()
	want(t, s, "sense", none)
	want(t, s, "cmd 0 "+ready, "2 6 2900")
	for range 3 {
		want(t, s, "sense", "power on occurred")
	}
	for _, line := range []string{"", "ops", "regs", "sync", "plan 0 0", "crash 0 0"} {
		if r := s.Line(line); r.E != api.OK {
			t.Errorf("Line(%q) = %+v", line, r)
		}
		want(t, s, "sense", "power on occurred")
	}
	for _, line := range []string{"what", "cmd", "cmd 0", "cmd 0 0", "cmd 0 00 0", "unit 0 0", "unit 1 4", "sense 0", blanks(401)} {
		if r := s.Line(line); r.E == api.OK {
			t.Errorf("Line(%q) = %+v", line, r)
		}
		want(t, s, "sense", "power on occurred")
	}
	want(t, s, "cmd 0 12000000ff00", s.Line("cmd 0 12000000ff00").Text)
	want(t, s, "sense", none)
	wake(t, s)
	want(t, s, "cmd 0 "+read(64), "2 5 2100")
	want(t, s, "sense", "logical block address out of range")
	want(t, s, "cmd 0 ff", "2 5 2000")
	want(t, s, "sense", "invalid command operation code")
	want(t, s, "cmd 1 "+ready, "0")
	want(t, s, "sense", none)
	want(t, s, "cmd 0 "+read(64), "2 5 2100")
	want(t, s, "unit 1 0", "")
	want(t, s, "sense", none)
}

// A command that a reservation keeps off tells no sense, and changes nothing (P6).
func TestSenseBehindAConflict(t *testing.T) {
	s := awake(t)
	want(t, s, "cmd 0 "+write(0)+" "+block("11"), "0")
	want(t, s, "cmd 0 "+prOut("06", "00")+" "+keys(0, 5, false), "0")
	want(t, s, "cmd 0 "+prOut("01", "03")+" "+keys(5, 0, false), "0")
	want(t, s, "cmd 0 "+read(64), "2 5 2100")
	files := s.world.Ops()
	want(t, s, "cmd 1 "+write(0)+" "+block("22"), "24")
	want(t, s, "sense", "no additional sense information")
	want(t, s, "cmd 1 "+read(0), "24")
	if s.world.Ops() != files {
		t.Errorf("the files were looked at")
	}
	want(t, s, "cmd 0 "+read(0), "0 "+block("11"))
}

// regs

func TestRegs(t *testing.T) {
	s := New()
	want(t, s, "regs", "0 -1")
	wake(t, s)
	want(t, s, "regs", "0 -1")
	list := ""
	for nexus, key := range []uint64{1, 0xf, 0x10, 0xdeadbeef, 0x0123456789abcdef, 0x8000000000000000, 0xffffffffffffffff, 0xa000} {
		want(t, s, fmt.Sprintf("cmd %d %s %s", nexus, prOut("06", "00"), keys(0, key, false)), "0")
		list += fmt.Sprintf(" %d:%x", nexus, key)
		want(t, s, "regs", "0 -1"+list)
	}
	if list != " 0:1 1:f 2:10 3:deadbeef 4:123456789abcdef 5:8000000000000000 6:ffffffffffffffff 7:a000" {
		t.Errorf("the list is %q", list)
	}
	want(t, s, "cmd 7 "+prOut("01", "06")+" "+keys(0xa000, 0, false), "0")
	want(t, s, "regs", "6 7"+list)
	want(t, s, "cmd 7 "+prOut("02", "06")+" "+keys(0xa000, 0, false), "0")
	want(t, s, "regs", "0 -1"+list)
	want(t, s, "cmd 0 "+prOut("06", "00")+" "+keys(0, 0, false), "2 6 2a04")
	want(t, s, "cmd 0 "+prOut("06", "00")+" "+keys(0, 0, false), "0")
	want(t, s, "regs", "0 -1"+strings.TrimPrefix(list, " 0:1"))
}

func TestRegsOfEachType(t *testing.T) {
	for kind, wanted := range map[string]string{"01": "1 4", "03": "3 4", "05": "5 4", "06": "6 4", "07": "7 -1", "08": "8 -1"} {
		s := awake(t)
		want(t, s, "cmd 4 "+prOut("06", "00")+" "+keys(0, 0xc, false), "0")
		want(t, s, "cmd 4 "+prOut("01", kind)+" "+keys(0xc, 0, false), "0")
		want(t, s, "regs", wanted+" 4:c")
	}
}

// sync

func TestSync(t *testing.T) {
	s := New()
	want(t, s, "ops", "0 0")
	wantSync(t, s, api.OK)
	want(t, s, "ops", "1 0")
	wake(t, s)
	want(t, s, "cmd 0 "+write(0)+" "+block("11"), "0")
	want(t, s, "plan 0 1", "")
	wantSync(t, s, api.ErrIO)
	want(t, s, "ops", "1 1")
	if r := s.Line("   sync "); r != (Reply{}) {
		t.Errorf("sync = %+v", r)
	}
	want(t, s, "ops", "2 0")
	want(t, s, "crash 0 0", "")
	wake(t, s)
	want(t, s, "cmd 0 "+read(0), "0 "+block("11"))
}

// A Sync that fails makes nothing durable, and nothing else has changed.
func TestSyncThatFails(t *testing.T) {
	s := busy(t)
	waits := s.world.Waits()
	want(t, s, "plan 0 1", "")
	if r := s.Line("  sync"); r != (Reply{E: api.ErrIO}) {
		t.Errorf("sync = %+v", r)
	}
	want(t, s, "ops", fmt.Sprintf("1 %d", waits))
	want(t, s, "sense", "logical block address out of range")
	want(t, s, "regs", "5 2 2:ab")
	want(t, s, "crash 0 0", "")
	wake(t, s)
	want(t, s, "cmd 2 "+read(2), "0 "+block("00"))
}

// Where the power goes off, every Sync is told so, till a crash.
func TestSyncWithoutPower(t *testing.T) {
	s := busy(t)
	s.world.Plan(nil, 0)
	for range 3 {
		if r := s.Line("sync"); r != (Reply{E: api.ErrCrash}) {
			t.Errorf("sync = %+v", r)
		}
		want(t, s, "ops", "1 1")
	}
	want(t, s, "plan 0 0", "")
	if r := s.Line("sync"); r != (Reply{E: api.ErrCrash}) {
		t.Errorf("sync behind a plan = %+v", r)
	}
	want(t, s, "crash 0 0", "")
	wantSync(t, s, api.OK)
}

// ops

func TestOps(t *testing.T) {
	s := New()
	for _, one := range []struct{ line, wanted string }{
		{"", "0 0"},
		{"cmd 0 " + ready, "2 0"}, // what was kept is looked for in two files
		{"cmd 0 " + ready, "2 0"},
		{"cmd 0 " + write(0) + " " + block("11"), "3 1"},
		{"cmd 0 " + write(1) + " " + block("22"), "4 2"},
		{"cmd 0 " + read(0), "5 2"},
		{"sense", "5 2"},
		{"regs", "5 2"},
		{"ops", "5 2"},
		{"what", "5 2"},
		{"unit 0 0", "5 2"},
		{"cmd 0 0", "5 2"},
		{"sync", "6 0"},
		{"cmd 0 " + writeFUA(1) + " " + block("33"), "8 0"},
		{"cmd 0 " + write(1) + " " + block("22"), "9 1"},
		{"plan 0 1", "0 1"},
		{"sync", "1 1"},
		{"cmd 0 " + syncCache, "2 0"},
		{"cmd 0 " + write(1) + " " + block("22"), "3 1"},
		{"crash 0 0", "0 0"},
		{"cmd 8 " + ready, "2 0"},
		{"unit 9 0", "0 0"},
	} {
		s.Line(one.line)
		want(t, s, "ops", one.wanted)
	}
}
