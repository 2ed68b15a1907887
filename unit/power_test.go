package unit

import (
	"fmt"
	"math/rand"
	"slices"
	"testing"

	"pallet/api"
	"pallet/world"
)

// P5: what lasts and what doesn't, whenever the power goes off.

// step is a command that must be done well, if nothing fails.
type step struct {
	nexus    int
	cmd, out []byte
}

// script has commands each of which keeps something, or makes blocks durable, or neither.
func script() []step {
	sel := func(nexus int, b byte, save bool) step { return step{nexus, modeSelect(save, 36), values(b)} }
	return []step{
		{0, prOut(6, 0), keys(0, 1, true)},
		{0, prOut(1, 5), keys(1, 0, false)},
		sel(0, 3, true),
		{0, writeFUA0, fill(1, 16)},
		{1, prOut(0, 0), keys(0, 2, true)},
		sel(1, 2, false),
		{1, write0, fill(2, 16)},
		sel(0, 1, true),
		{0, write0, fill(3, 16)},
		{0, syncAll, nil},
		{1, prOut(4, 1), keys(2, 1, false)},
		sel(1, 0, true),
		{1, write0, fill(4, 16)},
		{1, prOut(2, 1), keys(2, 0, false)},
		{2, prOut(6, 0), keys(0, 3, false)},
		{2, prOut(1, 8), keys(3, 0, false)},
		{2, prOut(0, 0), keys(3, 4, true)},
		sel(2, 7, true),
		sel(2, 1, false),
		{2, write0, fill(5, 16)},
		{2, prOut(3, 0), keys(4, 0, false)},
	}
}

// look tells what a unit has of what lasts: its table, its values, and its first block.
func look(t *testing.T, u *Unit) string {
	t.Helper()
	calmAll(u)
	regs, kind, holder := u.Table()
	nexus := max(holder, 0)
	if len(regs) > 0 && holder < 0 {
		nexus = regs[0].Nexus
	}
	now := u.Do(nexus, modeSense(0x3f, 0), nil)
	saved := u.Do(nexus, modeSense(0x3f, 3), nil)
	block := u.Do(nexus, read0, nil)
	if now.Status != 0 || saved.Status != 0 || block.Status != 0 {
		t.Fatalf("nexus %d: %+v, %+v, %+v", nexus, now, saved, block)
	}
	return fmt.Sprintf("%v %d %d %x %x %x", regs, kind, holder, now.Data, saved.Data, block.Data[0])
}

// play does commands, the last of which may fail.
func play(t *testing.T, u *Unit, list []step) api.Result {
	t.Helper()
	var r api.Result
	for i, x := range list {
		calmAll(u)
		r = u.Do(x.nexus, x.cmd, x.out)
		if r.Status != 0 && i < len(list)-1 {
			t.Fatalf("step %d: %+v", i, r)
		}
	}
	return r
}

// lasting tells what is there behind so many commands and a loss of power that keeps nothing.
func lasting(t *testing.T, n int) string {
	t.Helper()
	w := world.New()
	if r := play(t, newUnit(t, w, "s"), script()[:n]); r.Status != 0 {
		t.Fatalf("step %d: %+v", n, r)
	}
	w.Crash(0, 0)
	return look(t, newUnit(t, w, "s"))
}

// What lasts behind each command, by hand: the table, the values, and the first block.
func TestWhatLasts(t *testing.T) {
	none := "[]"
	reg := func(list ...api.Reg) string { return fmt.Sprint(list) }
	one, both := reg(api.Reg{Nexus: 0, Key: 1}), reg(api.Reg{Nexus: 0, Key: 1}, api.Reg{Nexus: 1, Key: 2})
	second := reg(api.Reg{Nexus: 1, Key: 2})
	last := reg(api.Reg{Nexus: 1, Key: 2}, api.Reg{Nexus: 2, Key: 4})
	for i, x := range []struct {
		regs   string
		kind   byte
		holder int
		values byte
		block  byte
	}{
		{none, 0, -1, 1, 0}, {one, 0, -1, 1, 0}, {one, 5, 0, 1, 0}, {one, 5, 0, 3, 0}, {one, 5, 0, 3, 1},
		{both, 5, 0, 3, 1}, {both, 5, 0, 3, 1}, {both, 5, 0, 3, 2}, {both, 5, 0, 1, 2}, {both, 5, 0, 1, 2},
		{both, 5, 0, 1, 3}, {second, 1, 1, 1, 3}, {second, 1, 1, 0, 3}, {second, 1, 1, 0, 4}, {second, 0, -1, 0, 4},
		{none, 0, -1, 0, 4}, {none, 0, -1, 0, 4}, {last, 8, -1, 0, 4}, {last, 8, -1, 7, 4}, {last, 8, -1, 7, 4},
		{last, 8, -1, 7, 4}, {none, 0, -1, 7, 5},
	} {
		head := byte(0x10)
		if x.values&4 != 0 {
			head = 0x90
		}
		data := append([]byte{0x23, 0, head, 0}, values(x.values)[4:]...)
		wanted := fmt.Sprintf("%s %d %d %x %x %x", x.regs, x.kind, x.holder, data, data, x.block)
		if got := lasting(t, i); got != wanted {
			t.Errorf("behind %d commands:\n%s; want\n%s", i, got, wanted)
		}
	}
}

// The power goes off at each call of each command, and anything may be kept of what waits: what was told is there, or what was being changed.
func TestPowerOffAtAnyCall(t *testing.T) {
	list := script()
	for n := range list {
		before, after := lasting(t, n), lasting(t, n+1)
		for stop := 0; ; stop++ {
			if !offAt(t, list[:n+1], stop, before, after) {
				break
			}
		}
	}
}

// offAt has the power go off at a call of the last command; false: that has no such call.
func offAt(t *testing.T, list []step, stop int, before, after string) bool {
	t.Helper()
	for keep := 0; ; keep++ {
		for _, cut := range []int{0, 1, 5, 15, 16, 17, 18, 21, 24, 25, 30, 40, 99} {
			w := world.New()
			u := newUnit(t, w, "s")
			play(t, u, list[:len(list)-1])
			calmAll(u)
			// What a cache holds ahead may be kept or not; here it is told done.
			w.Sync()
			seen := look(t, u)
			w.Plan(nil, stop)
			r := play(t, u, list[len(list)-1:])
			if !w.Off() {
				return false
			}
			if r.Status == 0 {
				t.Fatalf("step %d was done without power", len(list))
			}
			waits := w.Waits()
			w.Crash(keep, cut)
			got := look(t, newUnit(t, w, "s"))
			if !lies(got, before, after, seen) {
				t.Fatalf("step %d, off at %d, %d kept and %d bytes:\n%s; want\n%s, or\n%s", len(list), stop, keep, cut, got, before, after)
			}
			if keep > waits {
				return true
			}
		}
	}
}

// lies: what is there is as ahead of a command or as behind it; of the block, what was seen may be there as well, if it was made durable meanwhile.
func lies(got, before, after, seen string) bool {
	head := func(text string) string { return text[:len(text)-1] }
	tail := func(text string) byte { return text[len(text)-1] }
	blocks := []byte{tail(before), tail(after), tail(seen)}
	return (head(got) == head(before) || head(got) == head(after)) && slices.Contains(blocks, tail(got))
}

// may is what is kept, or may be: what the last one that was told done has kept, and all that were to be kept behind it.
type may []string

func (m *may) add(payload string, done bool) {
	if done {
		*m = nil
	}
	*m = append(*m, payload)
}

// wouldKeep tells what a unit keeps, if it keeps something.
func wouldKeep(u *Unit) string {
	v := u.pages.Saved()
	b := byte(0)
	for i, on := range []bool{v.WCE, v.DSense, v.SWP} {
		if on {
			b |= 1 << i
		}
	}
	return string(b) + string(u.table.Save())
}

// Any way through commands that keep something, failures and losses of power.
func TestWhatIsKeptOnAnyWay(t *testing.T) {
	losses := 0
	for seed := range int64(1500) {
		r := rand.New(rand.NewSource(seed))
		w := world.New()
		u := newUnit(t, w, "s")
		m := may{"none"}
		for range 40 {
			switch r.Intn(8) {
			case 0:
				w.Plan([]int{r.Intn(5), r.Intn(8)}, r.Intn(16)-4)
			case 1:
				w.Crash(r.Intn(4), r.Intn(80))
				got := kept(t, w, "s")
				if !slices.Contains(m, got) {
					t.Fatalf("seed %d: kept is %q; it may be one of %q", seed, got, m)
				}
				losses++
				m = may{got}
				u = newUnit(t, w, "s")
			case 2:
				calm(u, 0)
				b := byte(r.Intn(8))
				res := u.Do(0, modeSelect(true, 36), values(b))
				if res.Status == 0 || alike(res, badWrite) {
					m.add(wouldKeep(u), res.Status == 0)
				}
			default:
				nexus := r.Intn(3)
				calm(u, nexus)
				lasted := u.table.Lasts()
				cmd := prOut(byte(r.Intn(7)), []byte{1, 3, 5, 6, 7, 8}[r.Intn(6)])
				res := u.Do(nexus, cmd, keys(uint64(r.Intn(3)), uint64(r.Intn(3)), r.Intn(4) > 0))
				if (lasted || u.table.Lasts()) && (res.Status == 0 || alike(res, badWrite)) {
					m.add(wouldKeep(u), res.Status == 0)
				}
			}
		}
	}
	if losses < 1000 {
		t.Errorf("only %d losses of power", losses)
	}
}

// Blocks that were told done with FUA, without a cache or ahead of a SyncCache are there, till they are written again.
func TestBlocksOnAnyWay(t *testing.T) {
	losses := 0
	for seed := range int64(2000) {
		r := rand.New(rand.NewSource(seed))
		w := world.New()
		u := newUnit(t, w, "s")
		var last [4]byte          // the byte that each block was told written with
		var done, durable [4]bool // it was told done and nothing has happened to it since; it is durable, too
		for i := range 60 {
			calm(u, 0)
			switch r.Intn(8) {
			case 0:
				w.Plan([]int{r.Intn(5), r.Intn(8)}, r.Intn(16)-4)
			case 1:
				w.Crash(r.Intn(6), r.Intn(30))
				u = newUnit(t, w, "s")
				calm(u, 0)
				done = durable
				for lba := range last {
					if durable[lba] {
						want(t, u, 0, with(read0, 5, byte(lba)), nil, fine(fill(last[lba], 16)))
						losses++
					}
				}
			case 2:
				u.Do(0, modeSelect(r.Intn(2) == 0, 36), values(byte(r.Intn(4))))
			case 3:
				if u.Do(0, syncAll, nil).Status == 0 {
					durable = done
				}
			default:
				lba, b := r.Intn(4), byte(i+1)
				cmd := with(write0, 5, byte(lba))
				fua := r.Intn(3) == 0
				if fua {
					cmd[1] |= 8
				}
				res := u.Do(0, cmd, fill(b, 16))
				last[lba], done[lba] = b, res.Status == 0
				durable[lba] = done[lba] && (fua || !u.pages.Now().WCE)
			}
		}
	}
	if losses < 10000 {
		t.Errorf("only %d blocks were looked at behind a loss of power", losses)
	}
}
