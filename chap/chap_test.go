package chap

import (
	"bytes"
	"crypto/md5"
	"encoding/hex"
	"math/rand"
	"strings"
	"testing"

	"pallet/api"
)

func TestExample(t *testing.T) {
	for text, wanted := range map[string]string{
		"":    "0xd41d8cd98f00b204e9800998ecf8427e",
		"abc": "0x900150983cd24fb0d6963f7d28e17f72",
	} {
		sum := Sum([]byte(text))
		if got := Hex(sum[:]); got != wanted {
			t.Errorf("the sum of %q = %s; want %s", text, got, wanted)
		}
	}
	wantBytes(t, "0x0A", []byte{0x0a})
	wantNoBytes(t, "0x1")
	wantNoBytes(t, "1a")
}

// P19.1

func TestHex(t *testing.T) {
	for wanted, p := range map[string][]byte{
		"0x":           {},
		"0x00":         {0},
		"0x0a":         {10},
		"0xff":         {255},
		"0xa05f":       {0xa0, 0x5f},
		"0x0000":       {0, 0},
		"0x0123456789": {1, 0x23, 0x45, 0x67, 0x89},
		"0xabcdef":     {0xab, 0xcd, 0xef},
	} {
		wantHex(t, p, wanted)
	}
	wantHex(t, nil, "0x")
}

func TestHexOfEachByte(t *testing.T) {
	for b := range 256 {
		p := []byte{byte(b)}
		wantHex(t, p, "0x"+hex.EncodeToString(p))
		wantBytes(t, Hex(p), p)
	}
}

func TestHexOfLongRuns(t *testing.T) {
	r := rand.New(rand.NewSource(1))
	for _, size := range []int{15, 16, 17, 255, 256, 257, 4096, 100000} {
		p := anyBytes(r, size)
		wantHex(t, p, "0x"+hex.EncodeToString(p))
		wantBytes(t, Hex(p), p)
		wantBytes(t, "0X"+strings.ToUpper(hex.EncodeToString(p)), p)
	}
}

func wantHex(t *testing.T, p []byte, wanted string) {
	t.Helper()
	if got := Hex(p); got != wanted {
		t.Errorf("Hex(%x) = %s; want %s", p, got, wanted)
	}
}

func TestUnhex(t *testing.T) {
	for text, wanted := range map[string][]byte{
		"0x":               {},
		"0X":               {},
		"0x00":             {0},
		"0X00":             {0},
		"0x0a":             {10},
		"0x0A":             {10},
		"0X0a":             {10},
		"0X0A":             {10},
		"0xaB":             {0xab},
		"0xBa":             {0xba},
		"0xfFEe":           {0xff, 0xee},
		"0x0000":           {0, 0},
		"0x0123456789":     {1, 0x23, 0x45, 0x67, 0x89},
		"0XaAbBcCdDeEfF":   {0xaa, 0xbb, 0xcc, 0xdd, 0xee, 0xff},
		"0x9876543210abcd": {0x98, 0x76, 0x54, 0x32, 0x10, 0xab, 0xcd},
	} {
		wantBytes(t, text, wanted)
	}
}

func TestTextsOfNoBytes(t *testing.T) {
	for _, text := range []string{
		"", "0", "x", "X", "00", "01", "1x", "1x00", "x0", "x00", "xx", "0 x", " 0x00", "0x00 ", "0x 00", "0x0 0",
		"0x0", "0x1", "0X1", "0xf", "0x000", "0xabc", "0xabcde",
		"0xg0", "0x0g", "0xG0", "0x0G", "0x0x", "0xx0", "0x0x00", "0x0X00", "00x0", "00x00", "0x-1", "0x+1", "0x_1", "0x1_", "0x1_0",
		"1a", "aa", "ff00", "0b01", "0o01", "\x00x00", "0x\x00\x00", "0x00\x00", "0x00\x00\x00", "0x00\n0",
		"0x\x10\x10", "0x0\x10", "0x\x110", "0xé", "0x１", "0x0é", "Ox00", "0х00",
	} {
		wantNoBytes(t, text)
	}
}

// Each character in each place of a text that would be right.
func TestEachCharacterOfAText(t *testing.T) {
	for _, text := range []string{"0x5b", "0XC7"} {
		for at := range len(text) {
			for c := range 256 {
				p := []byte(text)
				p[at] = byte(c)
				wantAsModel(t, string(p))
			}
		}
	}
}

func TestAnyTexts(t *testing.T) {
	r := rand.New(rand.NewSource(2))
	right := 0
	for range 50000 {
		s := []string{"0x", "0X", "", "0", "x0"}[min(r.Intn(16), 12)%5]
		from := []string{"0123456789abcdefABCDEF", "0123456789abcdefABCDEFgG", "0xX1"}[r.Intn(3)]
		for range r.Intn(7) {
			s += string(from[r.Intn(len(from))])
		}
		if _, ok := modelUnhex(s); ok {
			right++
		}
		wantAsModel(t, s)
	}
	if right < 5000 || right > 45000 {
		t.Errorf("%d texts are right", right)
	}
}

// modelUnhex tells the bytes of a text by the library's way, which knows no 0x.
func modelUnhex(s string) ([]byte, bool) {
	if len(s) < 2 || s[0] != '0' || s[1] != 'x' && s[1] != 'X' {
		return nil, false
	}
	p, err := hex.DecodeString(s[2:])
	return p, err == nil
}

func wantAsModel(t *testing.T, s string) {
	t.Helper()
	if p, ok := modelUnhex(s); ok {
		wantBytes(t, s, p)
	} else {
		wantNoBytes(t, s)
	}
}

func wantBytes(t *testing.T, s string, wanted []byte) {
	t.Helper()
	if got, e := Unhex(s); !bytes.Equal(got, wanted) || e != api.OK {
		t.Errorf("Unhex(%q) = %x, %d; want %x", s, got, e, wanted)
	}
}

func wantNoBytes(t *testing.T, s string) {
	t.Helper()
	if got, e := Unhex(s); len(got) > 0 || e != api.ErrText {
		t.Errorf("Unhex(%q) = %x, %d; want none, ErrText", s, got, e)
	}
}

// P19.2

func TestAnswer(t *testing.T) {
	for _, x := range []struct {
		id        byte
		secret    string
		challenge string
		wanted    string
	}{
		{'a', "b", "c", "0x900150983cd24fb0d6963f7d28e17f72"},
		{'a', "bc", "", "0x900150983cd24fb0d6963f7d28e17f72"},
		{'a', "", "bc", "0x900150983cd24fb0d6963f7d28e17f72"},
		{0, "", "", "0x93b885adfe0da089cdf634904fd59f71"},
	} {
		wantAnswer(t, x.id, x.secret, []byte(x.challenge), x.wanted)
	}
}

func TestAnyAnswers(t *testing.T) {
	r := rand.New(rand.NewSource(3))
	for range 3000 {
		id, secret, challenge := byte(r.Intn(256)), string(anyBytes(r, r.Intn(80))), anyBytes(r, r.Intn(80))
		wantAnswer(t, id, secret, challenge, modelAnswer(id, secret, challenge))
	}
}

// modelAnswer tells an answer by the library's sum.
func modelAnswer(id byte, secret string, challenge []byte) string {
	sum := md5.Sum([]byte(string([]byte{id}) + secret + string(challenge)))
	return "0x" + hex.EncodeToString(sum[:])
}

func wantAnswer(t *testing.T, id byte, secret string, challenge []byte, wanted string) {
	t.Helper()
	if got := Answer(id, secret, challenge); got != wanted {
		t.Errorf("Answer(%d, %q, %x) = %s; want %s", id, secret, challenge, got, wanted)
	}
	wantRight(t, id, secret, challenge, wanted, true)
}

func wantRight(t *testing.T, id byte, secret string, challenge []byte, answer string, wanted bool) {
	t.Helper()
	if got := Right(id, secret, challenge, answer); got != wanted {
		t.Errorf("Right(%d, %q, %x, %q) = %v; want %v", id, secret, challenge, answer, got, wanted)
	}
}

func TestRightInWhicheverDigits(t *testing.T) {
	digits := modelAnswer(7, "secret", []byte{1, 2, 3})[2:]
	mixed := strings.ToUpper(digits[:16]) + digits[16:]
	for _, answer := range []string{"0x" + digits, "0X" + digits, "0x" + strings.ToUpper(digits), "0X" + strings.ToUpper(digits), "0x" + mixed} {
		wantRight(t, 7, "secret", []byte{1, 2, 3}, answer, true)
	}
}

func TestWrongAnswers(t *testing.T) {
	challenge := []byte{1, 2, 3}
	answer := modelAnswer(7, "secret", challenge)
	wantRight(t, 7, "secret", challenge, answer, true)
	for _, id := range []byte{0, 6, 8, 135, 255} {
		wantRight(t, id, "secret", challenge, answer, false)
	}
	for _, secret := range []string{"", "secre", "secreT", "Secret", "secret ", "secret\x00", "secret\x01", "\x07secret", "other"} {
		wantRight(t, 7, secret, challenge, answer, false)
	}
	for _, other := range [][]byte{nil, {}, {1, 2}, {1, 2, 3, 0}, {1, 2, 4}, {0, 2, 3}, {3, 2, 1}, {2, 3}} {
		wantRight(t, 7, "secret", other, answer, false)
	}
}

func TestAnswersThatAreNoText(t *testing.T) {
	challenge := []byte{1, 2, 3}
	answer := modelAnswer(7, "secret", challenge)
	for _, wrong := range []string{
		"", "0x", "0X", answer[2:], answer[1:], " " + answer, answer + " ", answer + "0", answer + "00", answer[:len(answer)-1], answer[:len(answer)-2],
		"0x00" + answer[2:], "0x" + answer, answer + "g", answer + "\x00", "00" + answer[2:], "0b" + answer[2:], strings.Repeat("0", 34), "x" + answer[1:],
		"0x" + answer[4:] + answer[2:4], answer + answer[2:],
	} {
		wantRight(t, 7, "secret", challenge, wrong, false)
	}
	// A text that is none has no bytes, not those that stand ahead of the fault.
	wantRight(t, 7, "secret", challenge, answer+"zz", false)
}

// Each bit of the answer counts.
func TestEachBitOfAnAnswer(t *testing.T) {
	challenge := []byte("challenge")
	sum, _ := hex.DecodeString(modelAnswer(200, "s", challenge)[2:])
	for at := range len(sum) {
		for bit := range 8 {
			sum[at] ^= 1 << bit
			wantRight(t, 200, "s", challenge, "0x"+hex.EncodeToString(sum), false)
			sum[at] ^= 1 << bit
		}
	}
	wantRight(t, 200, "s", challenge, "0x"+hex.EncodeToString(sum), true)
}

func anyBytes(r *rand.Rand, size int) []byte {
	p := make([]byte, size)
	r.Read(p)
	return p
}

// spoil writes over bytes and their spare room.
func spoil(p []byte) {
	p = p[:cap(p)]
	for i := range p {
		p[i]++
	}
}

func TestMemory(t *testing.T) {
	for _, size := range []int{0, 1, 2, 55, 56, 63, 64, 65, 200} {
		room := bytes.Repeat([]byte{0xa5}, size+100)
		ahead := bytes.Clone(room)
		p := room[:size]
		Sum(p)
		text := Hex(p)
		Answer(1, "s", p)
		Right(1, "s", p, text)
		if !bytes.Equal(room, ahead) {
			t.Errorf("%d bytes that were handed in have changed", size)
		}
		first, _ := Unhex(text)
		second, _ := Unhex(text)
		spoil(room)
		spoil(first)
		if text != "0x"+strings.Repeat("a5", size) || !bytes.Equal(second, ahead[:size]) {
			t.Errorf("an answer of %d bytes shares memory", size)
		}
	}
}
