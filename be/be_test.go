package be

import (
	"bytes"
	"math"
	"math/big"
	"math/rand"
	"testing"

	"pallet/api"
)

// strangeInts are places and lengths at which a careless sum or difference wraps round.
func strangeInts() []int {
	return []int{math.MinInt, math.MinInt + 1, -9, -8, -1, 0, 1, 2, 3, 7, 8, 9, 255, 256, math.MaxInt - 8, math.MaxInt - 1, math.MaxInt}
}

func strangeNumbers() []uint64 {
	return []uint64{0, 1, 2, 3, 255, 256, 1<<32 - 1, 1 << 32, 1<<63 - 1, 1 << 63, 1<<64 - 3, 1<<64 - 2, 1<<64 - 1}
}

func randomBytes(r *rand.Rand, n int) []byte {
	p := make([]byte, n)
	r.Read(p)
	return p
}

// P1.1

func TestGet(t *testing.T) {
	p := []byte{1, 2, 3, 4, 5, 6, 7, 8, 0xff}
	for _, c := range []struct {
		p     []byte
		at, n int
		v     uint64
		e     api.Errno
	}{
		{p[:3], 1, 2, 0x0203, api.OK},
		{[]byte{1, 2}, 0, 2, 258, api.OK},
		{p, 0, 1, 1, api.OK},
		{p, 0, 3, 0x010203, api.OK},
		{p, 0, 8, 0x0102030405060708, api.OK},
		{p, 1, 8, 0x02030405060708ff, api.OK},
		{p, 8, 1, 0xff, api.OK},
		{bytes.Repeat([]byte{0xff}, 8), 0, 8, 1<<64 - 1, api.OK},
		{make([]byte, 8), 0, 8, 0, api.OK},
		{[]byte{1}, 0, 9, 0, api.ErrArg},
		{p, 0, 9, 0, api.ErrArg},
		{p, 0, 0, 0, api.ErrArg},
		{p, 0, -1, 0, api.ErrArg},
		{p, -1, 0, 0, api.ErrArg},
		{nil, 0, 0, 0, api.ErrArg},
		{p, math.MaxInt, math.MaxInt, 0, api.ErrArg},
		{p, 0, math.MinInt, 0, api.ErrArg},
		{[]byte{1}, 0, 2, 0, api.ErrRange},
		{[]byte{1}, -1, 1, 0, api.ErrRange},
		{[]byte{1}, 1, 1, 0, api.ErrRange},
		{p, 2, 8, 0, api.ErrRange},
		{p, 9, 1, 0, api.ErrRange},
		{p, -1, 2, 0, api.ErrRange},
		{p, math.MaxInt, 1, 0, api.ErrRange},
		{p, math.MaxInt - 7, 8, 0, api.ErrRange},
		{p, math.MinInt, 8, 0, api.ErrRange},
		{nil, 0, 1, 0, api.ErrRange},
		{[]byte{}, 0, 8, 0, api.ErrRange},
	} {
		if v, e := Get(c.p, c.at, c.n); v != c.v || e != c.e {
			t.Errorf("Get(%x, %d, %d) = %x, %d; want %x, %d", c.p, c.at, c.n, v, e, c.v, c.e)
		}
	}
}

func TestGetLooksAtTheLengthAlone(t *testing.T) {
	p := []byte{1, 2, 3, 4}
	if v, e := Get(p[:2], 1, 2); v != 0 || e != api.ErrRange {
		t.Errorf("Get of bytes in spare room = %x, %d", v, e)
	}
}

func TestGetAsBigNumbers(t *testing.T) {
	r := rand.New(rand.NewSource(1))
	for range 20000 {
		p := randomBytes(r, r.Intn(12))
		at, n := r.Intn(16)-2, r.Intn(12)-1
		v, e := Get(p, at, n)
		switch {
		case n < 1 || n > 8:
			if v != 0 || e != api.ErrArg {
				t.Fatalf("Get(%x, %d, %d) = %x, %d; want ErrArg", p, at, n, v, e)
			}
		case at < 0 || at+n > len(p):
			if v != 0 || e != api.ErrRange {
				t.Fatalf("Get(%x, %d, %d) = %x, %d; want ErrRange", p, at, n, v, e)
			}
		default:
			if want := new(big.Int).SetBytes(p[at : at+n]).Uint64(); v != want || e != api.OK {
				t.Fatalf("Get(%x, %d, %d) = %x, %d; want %x", p, at, n, v, e, want)
			}
		}
	}
}

// P1.2

func TestPut(t *testing.T) {
	p := []byte{1, 2, 3, 4, 5, 6, 7, 8, 9}
	for _, c := range []struct {
		p     []byte
		at, n int
		v     uint64
		out   []byte
		e     api.Errno
	}{
		{[]byte{0, 0, 0}, 1, 2, 258, []byte{0, 1, 2}, api.OK},
		{p, 0, 1, 0xff, []byte{0xff, 2, 3, 4, 5, 6, 7, 8, 9}, api.OK},
		{p, 8, 1, 0, []byte{1, 2, 3, 4, 5, 6, 7, 8, 0}, api.OK},
		{p, 1, 8, 1<<64 - 1, []byte{1, 255, 255, 255, 255, 255, 255, 255, 255}, api.OK},
		{p, 0, 8, 0xa1a2a3a4a5a6a7a8, []byte{0xa1, 0xa2, 0xa3, 0xa4, 0xa5, 0xa6, 0xa7, 0xa8, 9}, api.OK},
		{p, 3, 4, 1, []byte{1, 2, 3, 0, 0, 0, 1, 8, 9}, api.OK},
		{p, 0, 0, 0, nil, api.ErrArg},
		{p, 0, 9, 0, nil, api.ErrArg},
		{p, 0, -1, 0, nil, api.ErrArg},
		{p, -1, 9, 1<<64 - 1, nil, api.ErrArg},
		{p, -1, 0, 1<<64 - 1, nil, api.ErrArg},
		{nil, 0, math.MinInt, 1, nil, api.ErrArg},
		{nil, 0, math.MaxInt, 1, nil, api.ErrArg},
		{p, 0, 1, 256, nil, api.ErrForm},
		{p, -1, 1, 256, nil, api.ErrForm},
		{p, 9, 1, 256, nil, api.ErrForm},
		{nil, 0, 7, 1 << 56, nil, api.ErrForm},
		{p, -1, 1, 255, nil, api.ErrRange},
		{p, 9, 1, 255, nil, api.ErrRange},
		{p, 2, 8, 1<<64 - 1, nil, api.ErrRange},
		{p, math.MaxInt, 8, 0, nil, api.ErrRange},
		{p, math.MinInt, 8, 0, nil, api.ErrRange},
		{nil, 0, 1, 0, nil, api.ErrRange},
		{[]byte{}, 0, 8, 0, nil, api.ErrRange},
	} {
		out, e := Put(c.p, c.at, c.n, c.v)
		if !bytes.Equal(out, c.out) || e != c.e {
			t.Errorf("Put(%x, %d, %d, %x) = %x, %d; want %x, %d", c.p, c.at, c.n, c.v, out, e, c.out, c.e)
		}
	}
}

func TestPutGreatestOfEachWidth(t *testing.T) {
	for n := 1; n <= 7; n++ {
		least := uint64(1) << (8 * n)
		if out, e := Put(make([]byte, n), 0, n, least-1); e != api.OK || !bytes.Equal(out, bytes.Repeat([]byte{0xff}, n)) {
			t.Errorf("Put of %x in %d bytes = %x, %d", least-1, n, out, e)
		}
		if out, e := Put(make([]byte, n), 0, n, least); e != api.ErrForm || len(out) != 0 {
			t.Errorf("Put of %x in %d bytes = %x, %d", least, n, out, e)
		}
	}
}

func TestPutThenGet(t *testing.T) {
	r := rand.New(rand.NewSource(2))
	for range 20000 {
		n := 1 + r.Intn(8)
		p := randomBytes(r, n+r.Intn(6))
		at := r.Intn(len(p) - n + 1)
		v := r.Uint64() >> (64 - 8*n)
		out, e := Put(p, at, n, v)
		if e != api.OK || len(out) != len(p) {
			t.Fatalf("Put(%x, %d, %d, %x) = %x, %d", p, at, n, v, out, e)
		}
		if got, e := Get(out, at, n); got != v || e != api.OK {
			t.Fatalf("Get of %x put = %x, %d", v, got, e)
		}
		if !bytes.Equal(out[:at], p[:at]) || !bytes.Equal(out[at+n:], p[at+n:]) {
			t.Fatalf("Put(%x, %d, %d, %x) = %x: other bytes changed", p, at, n, v, out)
		}
	}
}

func TestPutIsNewMemory(t *testing.T) {
	whole := []byte{1, 2, 3, 4, 5, 6}
	p := whole[:3]
	out, e := Put(p, 0, 2, 0xffff)
	if e != api.OK || !bytes.Equal(whole, []byte{1, 2, 3, 4, 5, 6}) {
		t.Fatalf("Put changed what was handed in: %x, %d", whole, e)
	}
	for i := range whole {
		whole[i] = 9
	}
	if !bytes.Equal(out, []byte{0xff, 0xff, 3}) {
		t.Errorf("the answer changed with the argument: %x", out)
	}
	room := out[:cap(out)]
	for i := range room {
		room[i] = 7
	}
	if !bytes.Equal(whole, []byte{9, 9, 9, 9, 9, 9}) {
		t.Errorf("the argument changed with the answer: %x", whole)
	}
}

// P1.3

func TestWithin(t *testing.T) {
	for _, c := range []struct {
		lba, n, blocks uint64
		want           bool
	}{
		{10, 6, 16, true},
		{10, 7, 16, false},
		{0, 0, 0, true},
		{0, 1, 0, false},
		{1, 0, 0, false},
		{16, 0, 16, true},
		{17, 0, 16, false},
		{0, 16, 16, true},
		{0, 17, 16, false},
		{15, 1, 16, true},
		{1<<64 - 1, 2, 1<<64 - 1, false},
		{1<<64 - 1, 1, 1<<64 - 1, false},
		{1<<64 - 1, 1, 0, false},
		{1<<64 - 1, 0, 1<<64 - 1, true},
		{1<<64 - 2, 1, 1<<64 - 1, true},
		{2, 1<<64 - 1, 16, false},
		{1 << 63, 1 << 63, 0, false},
		{0, 1<<64 - 1, 1<<64 - 1, true},
	} {
		if got := Within(c.lba, c.n, c.blocks); got != c.want {
			t.Errorf("Within(%d, %d, %d) = %v", c.lba, c.n, c.blocks, got)
		}
	}
}

func TestWithinAsTrueNumbers(t *testing.T) {
	l := strangeNumbers()
	for _, lba := range l {
		for _, n := range l {
			for _, blocks := range l {
				want := end(lba, n).Cmp(end(blocks, 0)) <= 0
				if got := Within(lba, n, blocks); got != want {
					t.Errorf("Within(%d, %d, %d) = %v", lba, n, blocks, got)
				}
			}
		}
	}
}

func TestMeet(t *testing.T) {
	for _, c := range []struct {
		a, n, b, m uint64
		want       bool
	}{
		{0, 4, 3, 1, true},
		{0, 4, 4, 1, false},
		{5, 0, 5, 1, false},
		{5, 1, 5, 0, false},
		{5, 0, 5, 0, false},
		{5, 1, 5, 1, true},
		{3, 1, 0, 4, true},
		{4, 1, 0, 4, false},
		{0, 10, 5, 0, false},
		{5, 0, 0, 10, false},
		{0, 10, 3, 2, true},
		{1<<64 - 1, 1, 1<<64 - 1, 1, true},
		{1<<64 - 1, 2, 0, 1, false},
		{0, 1, 1<<64 - 1, 2, false},
		{1<<64 - 2, 5, 1<<64 - 1, 1, true},
		{1, 1<<64 - 1, 1<<64 - 1, 9, true},
		{0, 1<<64 - 1, 1<<64 - 1, 1, false},
	} {
		if got := Meet(c.a, c.n, c.b, c.m); got != c.want {
			t.Errorf("Meet(%d, %d, %d, %d) = %v", c.a, c.n, c.b, c.m, got)
		}
	}
}

// TestMeetOfSmallRanges looks through all numbers of the ranges, one by one.
func TestMeetOfSmallRanges(t *testing.T) {
	for i := range uint64(6 * 6 * 6 * 6) {
		a, n, b, m := i%6, i/6%6, i/36%6, i/216
		want := false
		for x := range uint64(12) {
			want = want || x >= a && x < a+n && x >= b && x < b+m
		}
		if got := Meet(a, n, b, m); got != want {
			t.Errorf("Meet(%d, %d, %d, %d) = %v", a, n, b, m, got)
		}
	}
}

func TestMeetAsTrueNumbers(t *testing.T) {
	l := strangeNumbers()
	for _, a := range l {
		for _, n := range l {
			for _, b := range l {
				for _, m := range l {
					want := n > 0 && m > 0 && end(b, 0).Cmp(end(a, n)) < 0 && end(a, 0).Cmp(end(b, m)) < 0
					if got := Meet(a, n, b, m); got != want {
						t.Errorf("Meet(%d, %d, %d, %d) = %v", a, n, b, m, got)
					}
				}
			}
		}
	}
}

func end(a, n uint64) *big.Int {
	return new(big.Int).Add(new(big.Int).SetUint64(a), new(big.Int).SetUint64(n))
}

// P1.4

func TestOdd(t *testing.T) {
	for _, c := range []struct {
		p, mask []byte
		at, bit int
	}{
		{[]byte{0, 0x41}, []byte{0xff, 1}, 1, 6},
		{[]byte{0, 1}, []byte{0xff}, 1, 0},
		{[]byte{1}, []byte{1}, -1, -1},
		{nil, nil, -1, -1},
		{nil, []byte{0}, -1, -1},
		{[]byte{}, []byte{0xff}, -1, -1},
		{[]byte{0, 0, 0}, nil, -1, -1},
		{[]byte{0, 0, 0x80}, nil, 2, 7},
		{[]byte{0x18, 0xff}, []byte{0x10}, 0, 3},
		{[]byte{0xff, 0xff}, []byte{0xff, 0x7f}, 1, 7},
		{[]byte{0xff, 0xff}, []byte{0xff, 0xff, 0}, -1, -1},
		{[]byte{0}, []byte{0, 0, 0}, -1, -1},
		{[]byte{1, 0x80}, []byte{0, 0}, 0, 0},
		{[]byte{0xff}, []byte{0xfe}, 0, 0},
	} {
		if at, bit := Odd(c.p, c.mask); at != c.at || bit != c.bit {
			t.Errorf("Odd(%x, %x) = %d, %d; want %d, %d", c.p, c.mask, at, bit, c.at, c.bit)
		}
	}
}

func TestOddOfEveryByteAndMask(t *testing.T) {
	for i := range 1 << 16 {
		b, m := byte(i), byte(i>>8)
		wantAt, wantBit := -1, -1
		for bit := 7; bit >= 0 && wantBit < 0; bit-- {
			if b>>bit&1 == 1 && m>>bit&1 == 0 {
				wantAt, wantBit = 1, bit
			}
		}
		if at, bit := Odd([]byte{0, b}, []byte{0, m}); at != wantAt || bit != wantBit {
			t.Fatalf("Odd(00 %x, 00 %x) = %d, %d; want %d, %d", b, m, at, bit, wantAt, wantBit)
		}
	}
}

func TestOddLooksAtTheLengthsAlone(t *testing.T) {
	p, mask := []byte{0, 1, 0xff}, []byte{0xff, 0xff, 0xff}
	if at, bit := Odd(p[:1], mask); at != -1 || bit != -1 {
		t.Errorf("Odd looked behind the bytes: %d, %d", at, bit)
	}
	if at, bit := Odd(p, mask[:1]); at != 1 || bit != 0 {
		t.Errorf("Odd looked behind the mask: %d, %d", at, bit)
	}
}

func TestPad(t *testing.T) {
	for n, want := range []int{0, 3, 2, 1, 0, 3, 2, 1, 0} {
		if got := Pad(n); got != want {
			t.Errorf("Pad(%d) = %d; want %d", n, got, want)
		}
	}
	for _, n := range []int{-1, -2, -3, -4, -5, math.MinInt, math.MinInt + 1} {
		if got := Pad(n); got != 0 {
			t.Errorf("Pad(%d) = %d; want 0", n, got)
		}
	}
	for i, want := range []int{1, 2, 3, 0} {
		if got := Pad(math.MaxInt - i); got != want {
			t.Errorf("Pad(%d) = %d; want %d", math.MaxInt-i, got, want)
		}
	}
}

// P1, P2

func TestNothingPanicsAndTheSameIsAnsweredAgain(t *testing.T) {
	for _, p := range [][]byte{nil, {}, {1}, {0xff, 1, 2}, bytes.Repeat([]byte{0xa5}, 9)} {
		kept := bytes.Clone(p)
		for _, at := range strangeInts() {
			for _, n := range strangeInts() {
				v, e := Get(p, at, n)
				if w, f := Get(p, at, n); w != v || f != e {
					t.Errorf("Get(%x, %d, %d) answers %x, %d and then %x, %d", p, at, n, v, e, w, f)
				}
				for _, x := range strangeNumbers() {
					a, e := Put(p, at, n, x)
					if b, f := Put(p, at, n, x); !bytes.Equal(a, b) || e != f {
						t.Errorf("Put(%x, %d, %d, %x) answers %x, %d and then %x, %d", p, at, n, x, a, e, b, f)
					}
				}
			}
		}
		for _, mask := range [][]byte{nil, {}, {0}, {0xff, 0xff, 0xff, 0xff}} {
			at, bit := Odd(p, mask)
			if a, b := Odd(p, mask); a != at || b != bit {
				t.Errorf("Odd(%x, %x) answers %d, %d and then %d, %d", p, mask, at, bit, a, b)
			}
		}
		if !bytes.Equal(p, kept) {
			t.Errorf("%x was changed to %x", kept, p)
		}
	}
	for _, n := range strangeInts() {
		if Pad(n) != Pad(n) {
			t.Errorf("Pad(%d) answers twice", n)
		}
	}
}
