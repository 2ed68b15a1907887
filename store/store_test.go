package store

import (
	"math"
	"math/rand"
	"slices"
	"strings"
	"testing"

	"pallet/api"
	"pallet/world"
)

func open(t *testing.T, w *world.World, blocks int, cache bool) *Store {
	t.Helper()
	s, e := Open(w, "d", blocks, cache)
	if s == nil || e != api.OK {
		t.Fatalf("Open = %v, %d", s, e)
	}
	return s
}

func wantCount(t *testing.T, what string, n int, e api.Errno, count int, wanted api.Errno) {
	t.Helper()
	if n != count || e != wanted {
		t.Errorf("%s = %d, %d; want %d, %d", what, n, e, count, wanted)
	}
}

func wantBlocks(t *testing.T, s *Store, lba int, wanted ...api.Block) {
	t.Helper()
	l, n, e := s.Read(lba, len(wanted))
	if !slices.Equal(l, wanted) || n != len(wanted) || e != api.OK {
		t.Errorf("Read(%d, %d) = %v, %d, %d; want %v", lba, len(wanted), l, n, e, wanted)
	}
}

// block makes blocks that differ in each of their bytes.
func block(seed byte) api.Block {
	b := api.Block{Tuple: api.Tuple{Guard: 0x0102 * uint16(seed), App: 0x0305 * uint16(seed), Ref: 0x01020305 * uint32(seed)}}
	for i := range b.Data {
		b.Data[i] = seed + byte(i)
	}
	return b
}

func blocks(seeds ...byte) []api.Block {
	var l []api.Block
	for _, seed := range seeds {
		l = append(l, block(seed))
	}
	return l
}

// planned makes the call of that number fail, or the power go off at it, and tells the error that it then answers.
func planned(w *world.World, at int, stops bool) api.Errno {
	if stops {
		w.Plan(nil, at)
		return api.ErrCrash
	}
	w.Plan([]int{at}, -1)
	return api.ErrIO
}

var hollow = api.Block{Tuple: api.Tuple{Guard: 0xffff, App: 0xffff, Ref: 0xffffffff}}

// The chapter's examples.

func TestExampleBlocks(t *testing.T) {
	s := open(t, world.New(), 4, true)
	wantBlocks(t, s, 0, hollow)
	n, e := s.Write(1, blocks(7), false)
	wantCount(t, "Write", n, e, 1, api.OK)
	wantBlocks(t, s, 0, hollow, block(7))
	for _, c := range [][2]int{{3, 2}, {-1, 1}} {
		l, n, e := s.Read(c[0], c[1])
		wantCount(t, "Read", n, e, 0, api.ErrRange)
		if len(l) != 0 {
			t.Errorf("blocks beside an error: %v", l)
		}
	}
	wantBlocks(t, s, 4)
}

func TestExampleFailure(t *testing.T) {
	w := world.New()
	s := open(t, w, 4, true)
	w.Plan([]int{1}, -1)
	n, e := s.Write(0, blocks(1, 2, 3), true)
	wantCount(t, "Write", n, e, 1, api.ErrIO)
	if w.Ops() != 2 {
		t.Errorf("Ops = %d", w.Ops())
	}
	wantBlocks(t, s, 0, block(1), hollow, hollow, hollow)
}

func TestExampleFUA(t *testing.T) {
	w := world.New()
	s := open(t, w, 4, true)
	s.Write(1, blocks(9), true)
	w.Crash(0, 0)
	wantBlocks(t, s, 1, block(9))
}

// The file.

func TestBytesOfABlock(t *testing.T) {
	w := world.New()
	s := open(t, w, 4, true)
	b := api.Block{Tuple: api.Tuple{Guard: 0xa1a2, App: 0xb1b2, Ref: 0xc1c2c3c4}}
	copy(b.Data[:], "0123456789abcdef")
	s.Write(2, []api.Block{b}, false)
	p, _ := w.Read("d", 0, 1000)
	wanted := strings.Repeat("\x00", 50) + "\x010123456789abcdef\xa1\xa2\xb1\xb2\xc1\xc2\xc3\xc4"
	if string(p) != wanted {
		t.Errorf("the file is %q, want %q", p, wanted)
	}
	wantBlocks(t, s, 0, hollow, hollow, b, hollow)
}

func TestEmptyBlocks(t *testing.T) {
	full := "\x01" + strings.Repeat("\x02", 24)
	wanted := api.Block{Tuple: api.Tuple{Guard: 0x0202, App: 0x0202, Ref: 0x02020202}}
	for i := range wanted.Data {
		wanted.Data[i] = 2
	}
	for _, c := range []struct {
		file string
		list []api.Block
	}{
		{"", []api.Block{hollow, hollow, hollow}},
		{"\x01", []api.Block{hollow, hollow, hollow}},
		{full[:24], []api.Block{hollow, hollow, hollow}},
		{full, []api.Block{wanted, hollow, hollow}},
		{full + full[:24], []api.Block{wanted, hollow, hollow}},
		{full + full + full, []api.Block{wanted, wanted, wanted}},
		{full + full + full + full, []api.Block{wanted, wanted, wanted}},
		{full + "\x00" + full[1:] + full, []api.Block{wanted, hollow, wanted}},
		{full + "\x02" + full[1:] + full, []api.Block{wanted, hollow, wanted}},
		{"\xff" + full[1:] + full + full[:24], []api.Block{hollow, wanted, hollow}},
		{"\x81" + full[1:], []api.Block{hollow, hollow, hollow}},
	} {
		w := world.New()
		s := open(t, w, 3, true)
		if e := w.Write("d", 0, []byte(c.file)); e != api.OK {
			t.Fatal(e)
		}
		wantBlocks(t, s, 0, c.list...)
	}
}

// P4.1

func TestOpen(t *testing.T) {
	w := world.New()
	for _, c := range []struct {
		w      *world.World
		file   string
		blocks int
		e      api.Errno
	}{
		{w, "d", 1, api.OK},
		{w, "d", 4096, api.OK},
		{w, strings.Repeat("n", 32), 5, api.OK},
		{w, "", 5, api.ErrArg},
		{w, strings.Repeat("n", 33), 5, api.ErrArg},
		{w, "d", 0, api.ErrArg},
		{w, "d", -1, api.ErrArg},
		{w, "d", 4097, api.ErrArg},
		{w, "d", math.MaxInt, api.ErrArg},
		{w, "d", math.MinInt, api.ErrArg},
		{nil, "d", 5, api.ErrNone},
		{nil, "", 5, api.ErrArg},
		{nil, "d", 0, api.ErrArg},
	} {
		for _, cache := range []bool{false, true} {
			s, e := Open(c.w, c.file, c.blocks, cache)
			if e != c.e || (s != nil) != (e == api.OK) {
				t.Errorf("Open(%p, %q, %d) = %v, %d; want %d", c.w, c.file, c.blocks, s, e, c.e)
			}
			if e == api.OK && (s.Blocks() != c.blocks || s.Cache() != cache) {
				t.Errorf("Blocks %d, Cache %v; want %d, %v", s.Blocks(), s.Cache(), c.blocks, cache)
			}
		}
	}
	if w.Ops() != 0 || len(w.Names()) != 0 {
		t.Errorf("Open made a call")
	}
}

func TestOpenOfWhatIsThere(t *testing.T) {
	w := world.New()
	open(t, w, 4, false).Write(1, blocks(5), false)
	wantBlocks(t, open(t, w, 2, true), 0, hollow, block(5))
	w.Plan(nil, 0)
	w.Sync()
	open(t, w, 4, true)
	other, _ := Open(w, "e", 4, true)
	w.Crash(0, 0)
	wantBlocks(t, other, 1, hollow)
}

func TestGreatestStore(t *testing.T) {
	w := world.New()
	s := open(t, w, 4096, true)
	list := make([]api.Block, 4096)
	for i := range list {
		list[i] = block(byte(i % 251))
		list[i].Tuple.Ref = uint32(i)
	}
	n, e := s.Write(0, list, false)
	wantCount(t, "Write", n, e, 4096, api.OK)
	wantBlocks(t, s, 0, list...)
	if w.Size("d") != 4096*25 || w.Ops() != 8192 {
		t.Errorf("Size %d, Ops %d", w.Size("d"), w.Ops())
	}
}

// Ranges of P4.2 to P4.4.

func TestRanges(t *testing.T) {
	for _, c := range []struct {
		lba, n int
		e      api.Errno
	}{
		{0, 0, api.OK}, {0, 4, api.OK}, {3, 1, api.OK}, {4, 0, api.OK}, {2, 2, api.OK},
		{0, 5, api.ErrRange}, {3, 2, api.ErrRange}, {4, 1, api.ErrRange}, {5, 0, api.ErrRange},
		{-1, 1, api.ErrRange}, {-1, 0, api.ErrRange}, {math.MinInt, 4, api.ErrRange}, {math.MaxInt, 1, api.ErrRange}, {math.MaxInt, 0, api.ErrRange},
		{0, -1, api.ErrRange}, {4, -1, api.ErrRange}, {0, math.MinInt, api.ErrRange}, {0, math.MaxInt, api.ErrRange}, {1, math.MaxInt, api.ErrRange},
		{math.MaxInt, math.MaxInt, api.ErrRange}, {math.MinInt, math.MinInt, api.ErrRange}, {-1, math.MaxInt, api.ErrRange},
	} {
		w := world.New()
		s := open(t, w, 4, true)
		count := 0
		if c.e == api.OK {
			count = c.n
		}
		l, n, e := s.Read(c.lba, c.n)
		wantCount(t, "Read", n, e, count, c.e)
		if len(l) != count || w.Ops() != count {
			t.Errorf("Read(%d, %d): %d blocks, Ops %d", c.lba, c.n, len(l), w.Ops())
		}
		w.Plan(nil, -1)
		n, e = s.Unmap(c.lba, c.n)
		wantCount(t, "Unmap", n, e, count, c.e)
		if w.Ops() != count || w.Waits() != count {
			t.Errorf("Unmap(%d, %d): Ops %d, Waits %d", c.lba, c.n, w.Ops(), w.Waits())
		}
		if c.n < 0 || c.n > 100 {
			continue
		}
		w.Crash(0, 0)
		n, e = s.Write(c.lba, make([]api.Block, c.n), false)
		wantCount(t, "Write", n, e, count, c.e)
		if w.Ops() != count || w.Waits() != count {
			t.Errorf("Write(%d, %d blocks): Ops %d, Waits %d", c.lba, c.n, w.Ops(), w.Waits())
		}
	}
}

// A range is refused ahead of the power, and whatever the world would say.
func TestRangeAheadOfThePower(t *testing.T) {
	w := world.New()
	s := open(t, w, 4, false)
	w.Plan(nil, 0)
	w.Sync()
	_, n, e := s.Read(4, 1)
	wantCount(t, "Read", n, e, 0, api.ErrRange)
	n, e = s.Write(4, blocks(1), true)
	wantCount(t, "Write", n, e, 0, api.ErrRange)
	n, e = s.Unmap(4, 1)
	wantCount(t, "Unmap", n, e, 0, api.ErrRange)
	_, n, e = s.Read(0, 1)
	wantCount(t, "Read", n, e, 0, api.ErrCrash)
	_, n, e = s.Read(0, 0)
	wantCount(t, "Read of none", n, e, 0, api.OK)
	n, e = s.Write(0, nil, true)
	wantCount(t, "Write of none", n, e, 0, api.OK)
	n, e = s.Unmap(0, 0)
	wantCount(t, "Unmap of none", n, e, 0, api.OK)
}

// P4.2

func TestReadThatFails(t *testing.T) {
	for at := range 3 {
		for _, stops := range []bool{false, true} {
			w := world.New()
			s := open(t, w, 5, true)
			s.Write(0, blocks(1, 2, 3, 4, 5), false)
			wanted := planned(w, at, stops)
			l, n, e := s.Read(1, 3)
			wantCount(t, "Read", n, e, at, wanted)
			if len(l) != 0 || w.Ops() != at+1 {
				t.Errorf("Read that fails at %d: %v, Ops %d", at, l, w.Ops())
			}
		}
	}
}

func TestReadOfNoFile(t *testing.T) {
	w := world.New()
	s := open(t, w, 3, false)
	wantBlocks(t, s, 0, hollow, hollow, hollow)
	if w.Ops() != 3 || len(w.Names()) != 0 {
		t.Errorf("Ops %d, Names %q", w.Ops(), w.Names())
	}
	// A file that isn't there does fail where the script says so.
	w.Plan([]int{1}, -1)
	_, n, e := s.Read(0, 3)
	wantCount(t, "Read", n, e, 1, api.ErrIO)
}

// P4.3

func TestWriteCallsAndSync(t *testing.T) {
	for _, c := range []struct {
		cache, fua bool
		count      int
		ops, waits int
	}{
		{true, false, 3, 3, 3},
		{true, true, 3, 4, 0},
		{false, false, 3, 4, 0},
		{false, true, 3, 4, 0},
		{true, true, 0, 0, 0},
		{false, false, 0, 0, 0},
		{false, true, 0, 0, 0},
	} {
		w := world.New()
		s := open(t, w, 4, c.cache)
		n, e := s.Write(1, blocks(1, 2, 3)[:c.count], c.fua)
		wantCount(t, "Write", n, e, c.count, api.OK)
		if w.Ops() != c.ops || w.Waits() != c.waits {
			t.Errorf("cache %v, fua %v, %d blocks: Ops %d, Waits %d; want %d, %d", c.cache, c.fua, c.count, w.Ops(), w.Waits(), c.ops, c.waits)
		}
	}
}

func TestWriteOverBlocks(t *testing.T) {
	s := open(t, world.New(), 4, true)
	s.Write(0, blocks(1, 2, 3, 4), false)
	s.Write(1, blocks(8, 9), false)
	wantBlocks(t, s, 0, block(1), block(8), block(9), block(4))
	zero := api.Block{}
	s.Write(2, []api.Block{zero, hollow}, false)
	wantBlocks(t, s, 0, block(1), block(8), zero, hollow)
}

func TestWriteThatFails(t *testing.T) {
	for at := range 4 {
		for _, stops := range []bool{false, true} {
			w := world.New()
			s := open(t, w, 4, false)
			s.Write(0, blocks(1, 2, 3, 4), true)
			wanted := planned(w, at, stops)
			n, e := s.Write(1, blocks(5, 6, 7), true)
			wantCount(t, "Write", n, e, at, wanted) // the fourth call is the Sync: all were written
			if w.Ops() != at+1 || w.Waits() != at {
				t.Errorf("Write that fails at %d: Ops %d, Waits %d", at, w.Ops(), w.Waits())
			}
			w.Crash(at, 0)
			after := blocks(1, 2, 3, 4)
			copy(after[1:], blocks(5, 6, 7)[:at])
			wantBlocks(t, s, 0, after...)
		}
	}
}

// P4.4

func TestUnmap(t *testing.T) {
	for _, c := range []struct {
		cache      bool
		n          int
		ops, waits int
	}{{true, 2, 2, 2}, {false, 2, 3, 0}, {true, 0, 0, 0}, {false, 0, 0, 0}} {
		w := world.New()
		s := open(t, w, 4, true)
		s.Write(0, blocks(1, 2, 3, 4), true)
		s.SetCache(c.cache)
		w.Plan(nil, -1)
		n, e := s.Unmap(1, c.n)
		wantCount(t, "Unmap", n, e, c.n, api.OK)
		if w.Ops() != c.ops || w.Waits() != c.waits {
			t.Errorf("cache %v, %d blocks: Ops %d, Waits %d; want %d, %d", c.cache, c.n, w.Ops(), w.Waits(), c.ops, c.waits)
		}
		after := blocks(1, 2, 3, 4)
		for i := range c.n {
			after[1+i] = hollow
		}
		wantBlocks(t, s, 0, after...)
	}
}

func TestUnmapWritesOneByte(t *testing.T) {
	w := world.New()
	s := open(t, w, 4, true)
	s.Write(0, blocks(1, 2, 3, 4), true)
	before, _ := w.Read("d", 0, 100)
	s.Unmap(1, 2)
	before[25], before[50] = 0, 0
	after, _ := w.Read("d", 0, 101)
	if !slices.Equal(before, after) {
		t.Errorf("the file is %x, want %x", after, before)
	}
	// Behind the end of the file, and of none.
	w = world.New()
	s = open(t, w, 4, true)
	s.Unmap(2, 1)
	if p, _ := w.Read("d", 0, 100); string(p) != strings.Repeat("\x00", 51) {
		t.Errorf("the file is %x", p)
	}
	wantBlocks(t, s, 0, hollow, hollow, hollow, hollow)
}

func TestUnmapThatFails(t *testing.T) {
	for at := range 4 {
		for _, stops := range []bool{false, true} {
			w := world.New()
			s := open(t, w, 4, false)
			s.Write(0, blocks(1, 2, 3, 4), true)
			wanted := planned(w, at, stops)
			n, e := s.Unmap(0, 3)
			wantCount(t, "Unmap", n, e, at, wanted)
			if w.Ops() != at+1 || w.Waits() != at {
				t.Errorf("Unmap that fails at %d: Ops %d, Waits %d", at, w.Ops(), w.Waits())
			}
		}
	}
}

func TestSync(t *testing.T) {
	w := world.New()
	s := open(t, w, 4, true)
	s.Write(0, blocks(1), false)
	w.Plan([]int{0}, 2)
	for _, wanted := range []api.Errno{api.ErrIO, api.OK, api.ErrCrash, api.ErrCrash} {
		if e := s.Sync(); e != wanted {
			t.Errorf("Sync = %d, want %d", e, wanted)
		}
	}
	w.Crash(0, 0)
	wantBlocks(t, s, 0, block(1))
}

// P4.5

func TestSetCache(t *testing.T) {
	w := world.New()
	s := open(t, w, 4, true)
	s.Write(0, blocks(1), false)
	s.SetCache(false)
	if s.Cache() || w.Waits() != 1 || w.Ops() != 1 {
		t.Errorf("Cache %v, Waits %d, Ops %d", s.Cache(), w.Waits(), w.Ops())
	}
	s.Write(1, blocks(2), false)
	if w.Waits() != 0 {
		t.Errorf("without a cache: Waits %d", w.Waits())
	}
	s.SetCache(true)
	s.Unmap(1, 1)
	if !s.Cache() || w.Waits() != 1 || s.Blocks() != 4 {
		t.Errorf("Cache %v, Waits %d, Blocks %d", s.Cache(), w.Waits(), s.Blocks())
	}
}

func TestNilStore(t *testing.T) {
	var s *Store
	for _, lba := range []int{0, -1, math.MaxInt} {
		l, n, e := s.Read(lba, -1)
		wantCount(t, "Read", n, e, 0, api.ErrNone)
		if len(l) != 0 {
			t.Errorf("blocks of a nil store: %v", l)
		}
		n, e = s.Write(lba, nil, true)
		wantCount(t, "Write", n, e, 0, api.ErrNone)
		n, e = s.Unmap(lba, -1)
		wantCount(t, "Unmap", n, e, 0, api.ErrNone)
	}
	if e := s.Sync(); e != api.ErrNone {
		t.Errorf("Sync = %d", e)
	}
	s.SetCache(true)
	if s.Blocks() != 0 || s.Cache() {
		t.Errorf("Blocks %d, Cache %v", s.Blocks(), s.Cache())
	}
}

// P1: of a zero value, and of a copy, nothing is promised but that they don't panic.
func TestStrangeStoresDoNotPanic(t *testing.T) {
	twin := *open(t, world.New(), 4, false)
	for _, s := range []*Store{{}, {blocks: 4}, {world: &world.World{}, file: "d", blocks: 4}, &twin} {
		for range 3 {
			s.Read(0, 1)
			s.Write(0, blocks(1), true)
			s.Unmap(0, 1)
			s.Sync()
			s.SetCache(false)
		}
	}
}

// P5: what was told done with FUA, without a cache or ahead of a Sync is there, wherever the power goes off and whatever is kept of what waits.
func TestWhatWasToldIsThere(t *testing.T) {
	for how := range 3 {
		for stop := range 12 {
			for keep := range 6 {
				for cut := range 27 {
					w := world.New()
					told := writeTillOff(w, how, stop)
					w.Crash(keep, cut)
					s := open(t, w, 8, true)
					for lba, b := range told {
						wantBlocks(t, s, lba, b)
					}
				}
			}
		}
	}
}

// writeTillOff writes blocks till the power goes off, and tells those that were told durable.
func writeTillOff(w *world.World, how, stop int) map[int]api.Block {
	s, _ := Open(w, "d", 8, how != 1)
	w.Plan(nil, stop)
	told := map[int]api.Block{}
	for i, lba := range []int{5, 0, 2} {
		if n, e := s.Write(lba, blocks(byte(i+1), byte(i+101)), how == 0); n != 2 || e != api.OK {
			break
		}
		if how == 2 && s.Sync() != api.OK {
			break
		}
		told[lba], told[lba+1] = block(byte(i+1)), block(byte(i+101))
	}
	s.SetCache(true)
	s.Write(4, blocks(77), false) // with a cache: it may be lost, or be there in part
	return told
}

// Memory.

func TestMemory(t *testing.T) {
	s := open(t, world.New(), 4, true)
	room := blocks(1, 2, 3)
	s.Write(0, room[:2], false)
	if !slices.Equal(room, blocks(1, 2, 3)) {
		t.Errorf("an argument became %v", room)
	}
	room[0], room[1] = block(9), block(9)
	wantBlocks(t, s, 0, block(1), block(2))
	l, _, _ := s.Read(0, 2)
	l[0] = block(9)
	m, _, _ := s.Read(0, 2)
	if l[0] != block(9) || m[0] != block(1) {
		t.Errorf("answers share memory")
	}
	wantBlocks(t, s, 0, block(1), block(2))
}

// Blocks that were written, unmapped and lost, as a list of blocks reckons them.
func TestAsAList(t *testing.T) {
	for seed := range int64(200) {
		r := rand.New(rand.NewSource(seed))
		w := world.New()
		s := open(t, w, 6, r.Intn(2) == 0)
		seen := slices.Repeat([]api.Block{hollow}, 6)
		durable := slices.Clone(seen)
		for range 60 {
			lba := r.Intn(6)
			n := r.Intn(7 - lba)
			fua := r.Intn(4) == 0
			changed := n > 0
			switch r.Intn(8) {
			case 0, 1, 2:
				list := make([]api.Block, n)
				for i := range list {
					list[i] = block(byte(r.Intn(256)))
				}
				copy(seen[lba:], list)
				count, e := s.Write(lba, list, fua)
				wantCount(t, "Write", count, e, n, api.OK)
				if changed && (fua || !s.Cache()) {
					durable = slices.Clone(seen)
				}
			case 3, 4:
				copy(seen[lba:], slices.Repeat([]api.Block{hollow}, n))
				count, e := s.Unmap(lba, n)
				wantCount(t, "Unmap", count, e, n, api.OK)
				if changed && !s.Cache() {
					durable = slices.Clone(seen)
				}
			case 5:
				s.SetCache(r.Intn(3) > 0)
			case 6:
				w.Crash(0, 0)
				seen = slices.Clone(durable)
			case 7:
				if r.Intn(3) == 0 && s.Sync() == api.OK {
					durable = slices.Clone(seen)
				}
			}
			wantBlocks(t, s, 0, seen...)
		}
	}
}
