package chap

import (
	"bytes"
	"crypto/md5"
	"encoding/binary"
	"math"
	"math/rand"
	"strings"
	"testing"
)

// P19.1

func wantSum(t *testing.T, p []byte) {
	t.Helper()
	if got, wanted := Sum(p), md5.Sum(p); got != wanted {
		t.Errorf("the sum of %d bytes = %x; want %x", len(p), got, wanted)
	}
}

// The sums that the algorithm's own paper tells.
func TestKnownSums(t *testing.T) {
	for text, wanted := range map[string]string{
		"":                           "0xd41d8cd98f00b204e9800998ecf8427e",
		"a":                          "0x0cc175b9c0f1b6a831c399e269772661",
		"abc":                        "0x900150983cd24fb0d6963f7d28e17f72",
		"message digest":             "0xf96b697d7cb7938d525a2f31aaf161d0",
		"abcdefghijklmnopqrstuvwxyz": "0xc3fcd3d76192e4007dfb496cca67e13b",
		"ABCDEFGHIJKLMNOPQRSTUVWXYZabcdefghijklmnopqrstuvwxyz0123456789": "0xd174ab98d277d9f5a5611c2c9f419d9f",
		strings.Repeat("1234567890", 8):                                  "0x57edf4a22be3c955ac49da2e2107b67a",
	} {
		sum := Sum([]byte(text))
		if got := Hex(sum[:]); got != wanted {
			t.Errorf("the sum of %q = %s; want %s", text, got, wanted)
		}
	}
}

// Each length to some blocks, so that each way to end a block comes: 55, 56, 63, 64 and 65 bytes among them.
func TestSumsOfEachLength(t *testing.T) {
	r := rand.New(rand.NewSource(4))
	wantSum(t, nil)
	for size := range 4*64 + 10 {
		wantSum(t, make([]byte, size))
		wantSum(t, bytes.Repeat([]byte{0xff}, size))
		wantSum(t, bytes.Repeat([]byte{0x80}, size))
		wantSum(t, anyBytes(r, size))
	}
}

func TestSumsOfLongRuns(t *testing.T) {
	r := rand.New(rand.NewSource(5))
	for _, size := range []int{4095, 4096, 4097, 8191, 8192, 8193, 65535, 65536, 65537, 1 << 20, 1<<20 + 55, 1<<20 + 56, 1<<24 + 63} {
		wantSum(t, make([]byte, size))
		wantSum(t, anyBytes(r, size))
	}
}

// The count of bits is more than 32 bits can be from 2^29 bytes on: too many to lie here.
func TestTheCountOfBits(t *testing.T) {
	for _, size := range []int{0, 1, 31, 32, 1<<29 - 1, 1 << 29, 1<<29 + 1, 1<<31 - 1} {
		rest := bytes.Repeat([]byte{0xff}, size%64)
		end := ending(rest, size)
		if got := binary.LittleEndian.Uint64(end[len(end)-8:]); got != uint64(size)*8 {
			t.Errorf("of %d bytes the bits are %d", size, got)
		}
	}
}

func TestEachBitOfABlockCounts(t *testing.T) {
	p := make([]byte, 130)
	seen := map[[16]byte]int{Sum(p): -1}
	for bit := range len(p) * 8 {
		p[bit/8] ^= 1 << (bit % 8)
		sum := Sum(p)
		if other, found := seen[sum]; found {
			t.Errorf("the bits %d and %d have the same sum", other, bit)
		}
		seen[sum] = bit
		p[bit/8] ^= 1 << (bit % 8)
	}
}

// The same bytes at other places in memory, and behind one another, have their own sums alone.
func TestASumHangsOnItsBytesAlone(t *testing.T) {
	room := bytes.Repeat([]byte("pallet"), 50)
	wanted := md5.Sum(room[7:107])
	for range 3 {
		for _, p := range [][]byte{room[7:107], bytes.Clone(room[7:107]), room[7:107:107]} {
			if got := Sum(p); got != wanted {
				t.Errorf("the sum = %x; want %x", got, wanted)
			}
		}
		wantSum(t, room)
	}
}

func TestAddendsAreSines(t *testing.T) {
	for i, k := range addends {
		if wanted := uint32(math.Abs(math.Sin(float64(i+1))) * (1 << 32)); k != wanted {
			t.Errorf("the addend %d = %08x; want %08x", i, k, wanted)
		}
	}
}
