package text

import (
	"math"
	"math/rand"
	"slices"
	"strconv"
	"strings"
	"testing"
)

func TestExampleOfAgreements(t *testing.T) {
	wantNumber(t, "0x1F", 31)
	for _, s := range []string{"07", "0x", "", "1_0"} {
		wantNoNumber(t, s)
	}
	wantLeast(t, "9", 5, 0, 10, "5")
	wantLeast(t, "11", 5, 0, 10, "Reject")
	wantFirst(t, "CRC32C,None", []string{"None"}, "None")
}

// P18.3

func TestDecimalNumbers(t *testing.T) {
	for _, v := range []uint64{0, 1, 9, 10, 11, 99, 100, 255, 65536, 1<<24 - 1, math.MaxUint32, math.MaxUint32 + 1,
		math.MaxInt64, math.MaxInt64 + 1, 10000000000000000000, math.MaxUint64 - 1, math.MaxUint64} {
		wantNumber(t, strconv.FormatUint(v, 10), v)
	}
	wantNumber(t, "1234567890", 1234567890)
	for _, s := range []string{"18446744073709551616", "18446744073709551617", "18446744073709551620", "28446744073709551615",
		"99999999999999999999", "100000000000000000000", "184467440737095516150", "36893488147419103232", strings.Repeat("9", 5000)} {
		wantNoNumber(t, s)
	}
	for _, s := range []string{"00", "01", "000", "007", "0123", "00x1", "018446744073709551615", strings.Repeat("0", 5000)} {
		wantNoNumber(t, s)
	}
}

func TestNumbersOfBaseSixteen(t *testing.T) {
	for _, v := range []uint64{0, 1, 9, 10, 15, 16, 255, 256, 0xabcdef, math.MaxUint32, math.MaxInt64, math.MaxInt64 + 1, math.MaxUint64 - 1, math.MaxUint64} {
		low := strconv.FormatUint(v, 16)
		for _, digits := range []string{low, strings.ToUpper(low)} {
			for _, noughts := range []int{0, 1, 2, 16, 100} {
				wantNumber(t, "0x"+strings.Repeat("0", noughts)+digits, v)
			}
		}
	}
	wantNumber(t, "0x0123456789abcDEF", 0x0123456789abcdef)
	wantNumber(t, "0x"+strings.Repeat("0", 5000), 0)
	for _, s := range []string{"0x10000000000000000", "0x10000000000000001", "0x1ffffffffffffffff", "0x00010000000000000000",
		"0xfffffffffffffffff", "0x" + strings.Repeat("f", 5000)} {
		wantNoNumber(t, s)
	}
}

func TestNoNumbers(t *testing.T) {
	for _, s := range []string{"", " ", "x", "0x", "0X1", "0X", "x1", "00x1", "10x1", "0x0x1", "0x 1", "0x-1", "0x+1", "0x_1", "0x1_0", "0xg", "0x1g", "0xG",
		"+1", "-1", "-0", "+0", " 1", "1 ", "1.0", "1e3", "1,2", "1_0", "_1", "1_", "a", "ff", "1f", "0b1", "0o7", "0b", "0o", "1\x00", "\x001", "1\n",
		"٣", "１", "0x１", "Yes", "None", "inf", "1/", "1:", "0x@", "0x`", "0x/", "0x:"} {
		wantNoNumber(t, s)
	}
}

// Each character, alone and behind what numbers begin with.
func TestEachCharacterOfANumber(t *testing.T) {
	for c := range 256 {
		one := string([]byte{byte(c)})
		for _, s := range []string{one, "1" + one, one + "1", "0" + one, "0x" + one, "0x" + one + "1", "0x1" + one, "0x0" + one} {
			wantNumberAsModel(t, s)
		}
	}
}

func wantNumberAsModel(t *testing.T, s string) {
	t.Helper()
	if v, ok := modelNumber(s); ok {
		wantNumber(t, s, v)
	} else {
		wantNoNumber(t, s)
	}
}

func TestAnyNumbers(t *testing.T) {
	r := rand.New(rand.NewSource(20))
	numbers := 0
	for range 50000 {
		s := []string{"", "0x", "0", "1844674407370955", "0xffffffffffffff"}[r.Intn(5)]
		s += anyOf(r, []string{"0123456789", "0123456789abcdefABCDEF", "01xX_+-"}[r.Intn(3)], 0, 6)
		if _, ok := modelNumber(s); ok {
			numbers++
		}
		wantNumberAsModel(t, s)
	}
	if numbers < 5000 {
		t.Errorf("only %d numbers", numbers)
	}
}

// P18.4

func wantLeast(t *testing.T, offer string, own, low, high uint64, wanted string) {
	t.Helper()
	if got := Least(offer, own, low, high); got != wanted {
		t.Errorf("Least(%q, %d, %d, %d) = %q; want %q", offer, own, low, high, got, wanted)
	}
}

func TestLeast(t *testing.T) {
	const most = math.MaxUint64
	for _, x := range []struct {
		offer          string
		own, low, high uint64
		wanted         string
	}{
		{"4", 5, 0, 10, "4"},
		{"5", 5, 0, 10, "5"},
		{"6", 5, 0, 10, "5"},
		{"0", 5, 0, 10, "0"},
		{"10", 50, 0, 10, "10"},
		{"11", 50, 0, 10, "Reject"},
		{"512", 65536, 512, 1<<24 - 1, "512"},
		{"511", 65536, 512, 1<<24 - 1, "Reject"},
		{"513", 65536, 512, 1<<24 - 1, "513"},
		{"16777215", 65536, 512, 1<<24 - 1, "65536"},
		{"16777216", 65536, 512, 1<<24 - 1, "Reject"},
		// Our own may lie outside of low and high: the offer alone is held against them.
		{"3", 1, 2, 4, "1"},
		{"3", 9, 2, 4, "3"},
		{"2", 0, 2, 2, "0"},
		{"1", 9, 2, 2, "Reject"},
		{"3", 9, 2, 2, "Reject"},
		{"3", 9, 4, 2, "Reject"},
		{"4", 9, 4, 2, "Reject"},
		{"2", 9, 4, 2, "Reject"},
		// What is told is decimal, whatever was offered.
		{"0x1F", 100, 0, 100, "31"},
		{"0x000a", 100, 0, 100, "10"},
		{"0xff", 16, 0, 255, "16"},
		{"18446744073709551615", most, 0, most, "18446744073709551615"},
		{"0xffffffffffffffff", most, most, most, "18446744073709551615"},
		{"18446744073709551615", most - 1, 0, most, "18446744073709551614"},
		{"18446744073709551615", most, 0, most - 1, "Reject"},
		{"18446744073709551616", most, 0, most, "Reject"},
		{"18446744073709551617", 5, 0, most, "Reject"},
		{"9223372036854775808", 1, 0, 1<<63 - 1, "Reject"},
		{"9223372036854775808", 1, 1 << 63, most, "1"},
		// What is no number is rejected, also where 0 may be.
		{"", 5, 0, 10, "Reject"},
		{"07", 5, 0, 10, "Reject"},
		{"-1", 5, 0, 10, "Reject"},
		{"+1", 5, 0, 10, "Reject"},
		{" 1", 5, 0, 10, "Reject"},
		{"1,2", 5, 0, 10, "Reject"},
		{"0x", 5, 0, 10, "Reject"},
		{"Yes", 0, 0, 0, "Reject"},
		{"0", 0, 0, 0, "0"},
	} {
		wantLeast(t, x.offer, x.own, x.low, x.high, x.wanted)
	}
}

func TestAnyLeast(t *testing.T) {
	r := rand.New(rand.NewSource(21))
	for range 20000 {
		offer := []string{strconv.Itoa(r.Intn(12)), "0x" + strconv.FormatInt(r.Int63n(20), 16), anyOf(r, "01x", 0, 3)}[r.Intn(3)]
		own, low, high := uint64(r.Intn(12)), uint64(r.Intn(12)), uint64(r.Intn(12))
		wanted := "Reject"
		if v, ok := modelNumber(offer); ok && low <= v && v <= high {
			wanted = strconv.FormatUint(slices.Min([]uint64{v, own}), 10)
		}
		wantLeast(t, offer, own, low, high, wanted)
	}
}

func TestBothAndEither(t *testing.T) {
	for _, x := range []struct {
		offer        string
		own          bool
		both, either string
	}{
		{"Yes", true, "Yes", "Yes"},
		{"Yes", false, "No", "Yes"},
		{"No", true, "No", "Yes"},
		{"No", false, "No", "No"},
	} {
		if got := Both(x.offer, x.own); got != x.both {
			t.Errorf("Both(%q, %v) = %q; want %q", x.offer, x.own, got, x.both)
		}
		if got := Either(x.offer, x.own); got != x.either {
			t.Errorf("Either(%q, %v) = %q; want %q", x.offer, x.own, got, x.either)
		}
	}
	for _, offer := range []string{"", "yes", "no", "YES", "NO", "Y", "N", " Yes", "Yes ", "No ", "Yes,No", "Reject", "Yess", "Ye", "1", "0", "true", "Yes\x00"} {
		for _, own := range []bool{false, true} {
			if got := Both(offer, own); got != "Reject" {
				t.Errorf("Both(%q, %v) = %q", offer, own, got)
			}
			if got := Either(offer, own); got != "Reject" {
				t.Errorf("Either(%q, %v) = %q", offer, own, got)
			}
		}
	}
}

func wantFirst(t *testing.T, offer string, own []string, wanted string) {
	t.Helper()
	if got := First(offer, own); got != wanted {
		t.Errorf("First(%q, %q) = %q; want %q", offer, own, got, wanted)
	}
}

func TestFirst(t *testing.T) {
	for _, x := range []struct {
		offer  string
		own    []string
		wanted string
	}{
		{"None", []string{"None"}, "None"},
		{"None", []string{"CRC32C", "None"}, "None"},
		// The order is the offer's.
		{"CRC32C,None", []string{"None", "CRC32C"}, "CRC32C"},
		{"None,CRC32C", []string{"CRC32C", "None"}, "None"},
		{"a,b,c", []string{"c"}, "c"},
		{"a,b,c", []string{"b"}, "b"},
		{"a,b,c", []string{"c", "b"}, "b"},
		{"a,b,a", []string{"a", "a"}, "a"},
		{"a,b,c", []string{"d"}, "Reject"},
		{"a", []string{"A"}, "Reject"},
		{"aa", []string{"a"}, "Reject"},
		{"a", []string{"aa"}, "Reject"},
		{" a, b", []string{"a", "b"}, "Reject"},
		{"a, b", []string{" b"}, " b"},
		{"a;b", []string{"a", "b"}, "Reject"},
		// A piece has no comma.
		{"a,b", []string{"a,b"}, "Reject"},
		{"a,b", []string{"a,b", ",", "b"}, "b"},
		// Pieces may be empty, at each end and between.
		{"", nil, "Reject"},
		{"", []string{"a"}, "Reject"},
		{"", []string{""}, ""},
		{"", []string{"a", ""}, ""},
		{",", []string{"a"}, "Reject"},
		{",", []string{"a", ","}, "Reject"},
		{",a", []string{"a"}, "a"},
		{"a,", []string{"a"}, "a"},
		{",,a,,", []string{"a"}, "a"},
		{"b,,a", []string{"a"}, "a"},
		{",a", []string{"a", ""}, ""},
		{"b,,a", []string{"a", ""}, ""},
		{"b,a,", []string{""}, ""},
		{"b,a", []string{""}, "Reject"},
		{"a", nil, "Reject"},
		{"a", []string{}, "Reject"},
		{"Reject", []string{"Reject"}, "Reject"},
		{"\xff,\x00", []string{"\x00"}, "\x00"},
		{strings.Repeat(",", 100000) + "a", []string{"a"}, "a"},
	} {
		wantFirst(t, x.offer, x.own, x.wanted)
	}
}

func TestAnyFirst(t *testing.T) {
	r := rand.New(rand.NewSource(22))
	for range 20000 {
		var own []string
		for range r.Intn(4) {
			own = append(own, anyOf(r, "abc", 0, 2))
		}
		offer := anyOf(r, "abc,,,", 0, 12)
		ahead := slices.Clone(own)
		wantFirst(t, offer, own, modelFirst(offer, own))
		if !slices.Equal(own, ahead) {
			t.Fatalf("%q became %q", ahead, own)
		}
	}
}

func TestPieces(t *testing.T) {
	for _, s := range []string{"", ",", "a", "a,b", ",a,,b,", ",,,"} {
		all := pieces(s)
		wanted := strings.Split(s, ",")
		// They can be gone through again, also behind a way that was broken off.
		for n := range len(wanted) {
			var got []string
			for piece := range all {
				got = append(got, piece)
				if len(got) > n {
					break
				}
			}
			if !slices.Equal(got, wanted[:n+1]) {
				t.Errorf("the first %d pieces of %q: %q", n+1, s, got)
			}
		}
		if got := slices.Collect(all); !slices.Equal(got, wanted) {
			t.Errorf("the pieces of %q: %q", s, got)
		}
	}
}
