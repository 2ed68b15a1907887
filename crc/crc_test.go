package crc

import (
	"bytes"
	"hash/crc32"
	"math/big"
	"math/rand"
	"testing"
)

const digits = "123456789"

func samples() [][]byte {
	r := rand.New(rand.NewSource(3))
	l := [][]byte{nil, {}, {0}, {0xff}, []byte(digits), make([]byte, 32), bytes.Repeat([]byte{0xff}, 32)}
	for n := range 200 {
		p := make([]byte, n)
		r.Read(p)
		l = append(l, p)
	}
	return l
}

func sums32() []uint32 { return []uint32{0, 1, 0x80000000, 0x82f63b78, 0xdeadbeef, 0xffffffff} }

func sums16() []uint16 { return []uint16{0, 1, 0x8000, 0x8bb7, 0xbeef, 0xffff} }

// P2.1

func TestC32(t *testing.T) {
	up := make([]byte, 32)
	for i := range up {
		up[i] = byte(i)
	}
	for _, c := range []struct {
		p    []byte
		want uint32
	}{
		{[]byte(digits), 0xe3069283},
		{nil, 0},
		{[]byte{}, 0},
		{make([]byte, 32), 0x8a9136aa},
		{bytes.Repeat([]byte{0xff}, 32), 0x62a8ab43},
		{up, 0x46dd794e},
	} {
		if got := C32(c.p); got != c.want {
			t.Errorf("C32(%x) = %08x; want %08x", c.p, got, c.want)
		}
	}
}

func TestC32AgainstTheLibrary(t *testing.T) {
	tab := crc32.MakeTable(crc32.Castagnoli)
	for _, p := range samples() {
		if got, want := C32(p), crc32.Checksum(p, tab); got != want {
			t.Errorf("C32(%x) = %08x; want %08x", p, got, want)
		}
		for _, sum := range sums32() {
			if got, want := Add32(sum, p), crc32.Update(sum, tab, p); got != want {
				t.Errorf("Add32(%08x, %x) = %08x; want %08x", sum, p, got, want)
			}
		}
	}
}

func TestAdd32(t *testing.T) {
	p := []byte(digits)
	for i := range len(p) + 1 {
		if got := Add32(C32(p[:i]), p[i:]); got != 0xe3069283 {
			t.Errorf("cut at %d: %08x", i, got)
		}
	}
	for _, sum := range sums32() {
		if got := Add32(sum, nil); got != sum {
			t.Errorf("Add32(%08x, nothing) = %08x", sum, got)
		}
	}
}

func TestC16(t *testing.T) {
	for _, c := range []struct {
		p    []byte
		want uint16
	}{
		{[]byte(digits), 0xd0db},
		{nil, 0},
		{[]byte{}, 0},
		{make([]byte, 32), 0},
		{[]byte{1}, 0x8bb7},
		{bytes.Repeat([]byte{0xff}, 32), 0xa293},
	} {
		if got := C16(c.p); got != c.want {
			t.Errorf("C16(%x) = %04x; want %04x", c.p, got, c.want)
		}
	}
}

// rest is what remains of a division of polynomials: the guard, told another way.
func rest(sum uint16, p []byte) uint16 {
	v := new(big.Int).SetBytes(append(bytes.Clone(p), 0, 0))
	start := new(big.Int).Lsh(new(big.Int).SetUint64(uint64(sum)), uint(8*len(p)))
	v.Xor(v, start)
	by := big.NewInt(0x18bb7)
	for v.BitLen() > 16 {
		v.Xor(v, new(big.Int).Lsh(by, uint(v.BitLen()-17)))
	}
	return uint16(v.Uint64())
}

func TestC16AgainstADivision(t *testing.T) {
	for _, p := range samples() {
		if got, want := C16(p), rest(0, p); got != want {
			t.Errorf("C16(%x) = %04x; want %04x", p, got, want)
		}
		for _, sum := range sums16() {
			if got, want := Add16(sum, p), rest(sum, p); got != want {
				t.Errorf("Add16(%04x, %x) = %04x; want %04x", sum, p, got, want)
			}
		}
	}
}

func TestAdd16(t *testing.T) {
	p := []byte(digits)
	for i := range len(p) + 1 {
		if got := Add16(C16(p[:i]), p[i:]); got != 0xd0db {
			t.Errorf("cut at %d: %04x", i, got)
		}
	}
	for _, sum := range sums16() {
		if got := Add16(sum, nil); got != sum {
			t.Errorf("Add16(%04x, nothing) = %04x", sum, got)
		}
	}
}

// P1, P2

func TestNothingIsChangedAndTheSameIsAnsweredAgain(t *testing.T) {
	for _, p := range samples() {
		kept := bytes.Clone(p)
		a, b, c, d := C32(p), Add32(7, p), C16(p), Add16(7, p)
		if C32(p) != a || Add32(7, p) != b || C16(p) != c || Add16(7, p) != d {
			t.Errorf("sums of %x are others the second time", p)
		}
		if !bytes.Equal(p, kept) {
			t.Errorf("%x was changed to %x", kept, p)
		}
	}
}

func TestSpareRoomIsNotLookedAt(t *testing.T) {
	p := []byte(digits + "behind")[:len(digits)]
	if C32(p) != 0xe3069283 || C16(p) != 0xd0db {
		t.Errorf("sums %08x, %04x", C32(p), C16(p))
	}
}
