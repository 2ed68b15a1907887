package text

import (
	"bytes"
	"math/rand"
	"slices"
	"strings"
	"testing"

	"pallet/api"
)

func TestExampleOfTexts(t *testing.T) {
	wantParse(t, []byte("a=1\x00b==\x00"), pairs("a", "1", "b", "="))
	wantNoParse(t, []byte("a=1"), api.ErrText)
	wantNoParse(t, []byte("a=\x00a=\x00"), api.ErrExists)
}

// P18.1, P18.2

func TestNoPairs(t *testing.T) {
	wantBoth(t, nil)
	wantWrite(t, []api.Pair{}, nil)
	wantParse(t, []byte{}, nil)
}

func TestPairsInOrder(t *testing.T) {
	wantBoth(t, pairs("b", "2", "a", "1", "c", "2"))
	wantBoth(t, pairs("a", "1", "A", "2", "aa", "3", "-", "", "a.", ""))
	wantWrite(t, pairs("InitiatorName", "iqn.x:y", "HeaderDigest", "CRC32C,None"),
		[]byte("InitiatorName=iqn.x:y\x00HeaderDigest=CRC32C,None\x00"))
}

func TestEachCharacterOfAKey(t *testing.T) {
	const may = "ABCDEFGHIJKLMNOPQRSTUVWXYZabcdefghijklmnopqrstuvwxyz0123456789.-+_"
	for c := range 256 {
		one := string([]byte{byte(c)})
		for _, key := range []string{one, one + "a", "a" + one, "a" + one + "b"} {
			if strings.Contains(may, one) {
				wantBoth(t, pairs(key, "v"))
				continue
			}
			wantNoWrite(t, pairs(key, "v"), api.ErrText)
			wantNoWrite(t, pairs("a", "", key, "v", "b", ""), api.ErrText)
			if one != "=" || key[0] == '=' {
				wantNoParse(t, join(pairs(key, "v")), api.ErrText)
				wantNoParse(t, join(pairs("a", "", key, "v", "b", "")), api.ErrText)
			}
		}
	}
	wantNeither(t, pairs("ä", "v"), api.ErrText)
}

func TestEachCharacterOfAValue(t *testing.T) {
	for c := range 256 {
		one := string([]byte{byte(c)})
		for _, value := range []string{one, one + "a", "a" + one, "a" + one + "b"} {
			if c >= 0x20 && c <= 0x7e {
				wantBoth(t, pairs("k", value))
				continue
			}
			wantNoWrite(t, pairs("k", value), api.ErrText)
			wantNoWrite(t, pairs("a", "", "k", value, "b", ""), api.ErrText)
			wantNoParse(t, join(pairs("k", value)), api.ErrText)
		}
	}
	wantNeither(t, pairs("k", "ä"), api.ErrText)
}

func TestLengthsOfKeysAndValues(t *testing.T) {
	for _, n := range []int{1, 2, 62, 63} {
		wantBoth(t, pairs(strings.Repeat("K", n), "v"))
	}
	for _, n := range []int{0, 64, 65, 255, 300} {
		wantNeither(t, pairs(strings.Repeat("K", n), "v"), api.ErrText)
		wantNeither(t, pairs("a", "b", strings.Repeat("K", n), "v"), api.ErrText)
	}
	for _, n := range []int{0, 1, 63, 64, 254, 255} {
		wantBoth(t, pairs("k", strings.Repeat("v", n)))
		wantBoth(t, pairs("k", strings.Repeat("=", n)))
	}
	for _, n := range []int{256, 257, 1000} {
		wantNeither(t, pairs("k", strings.Repeat("v", n)), api.ErrText)
		wantNeither(t, pairs("k", strings.Repeat("v", n), "l", ""), api.ErrText)
	}
	wantBoth(t, pairs(strings.Repeat("K", 63), strings.Repeat("v", 255)))
	// What has far too many characters is no key and no value, too.
	wantNoWrite(t, pairs(strings.Repeat("K", 1<<20), "v"), api.ErrText)
	wantNoWrite(t, pairs("k", strings.Repeat("v", 1<<20)), api.ErrText)
}

// The first = ends the key.
func TestValuesWithTheSign(t *testing.T) {
	for _, value := range []string{"=", "==", "=a", "a=", "a=b=c"} {
		wantBoth(t, pairs("k", value, "l", value))
	}
}

func TestNoText(t *testing.T) {
	for _, p := range []string{
		"a", "a=", "a=1", "a=1\x00b", "a=1\x00b=", "a=1\x00b=2", "=", "=\x00", "=v\x00", "==\x00",
		"\x00", "\x00\x00", "a\x00", "a=1\x00b\x00", "a\x00b=1\x00", "a=1\x00\x00", "\x00a=1\x00", "a=1\x00\x00b=2\x00",
		"a=1\n\x00", "a b=1\x00", " a=1\x00", "a =1\x00", "a=1\x00 ",
	} {
		wantNoParse(t, []byte(p), api.ErrText)
	}
	// What the memory has behind a text isn't its.
	wantNoParse(t, []byte("a=1\x00")[:3], api.ErrText)
}

func TestKeysTwice(t *testing.T) {
	wantNeither(t, pairs("a", "1", "a", "1"), api.ErrExists)
	wantNeither(t, pairs("a", "1", "a", "2"), api.ErrExists)
	wantNeither(t, pairs("a", "1", "b", "2", "c", "", "a", "3"), api.ErrExists)
	wantNeither(t, pairs("b", "", "a", "1", "c", "2", "c", "2"), api.ErrExists)
	wantNeither(t, append(numbered(63), api.Pair{Key: "k62"}), api.ErrExists)
	wantNeither(t, append(numbered(63), api.Pair{Key: "k0"}), api.ErrExists)
}

func TestCountsOfPairs(t *testing.T) {
	for _, n := range []int{1, 2, 63, 64} {
		wantBoth(t, numbered(n))
	}
	for _, n := range []int{65, 66, 100} {
		wantNeither(t, numbered(n), api.ErrLong)
	}
	// As many as a text has room for.
	wantNoParse(t, bytes.Repeat([]byte("a=\x00"), 4096/3), api.ErrLong)
	wantNoWrite(t, make([]api.Pair, 1<<16), api.ErrLong)
}

func TestCountsOfBytes(t *testing.T) {
	for _, n := range []int{4094, 4095, 4096} {
		if got := len(join(sized(n))); got != n {
			t.Fatalf("%d bytes; want %d", got, n)
		}
		wantBoth(t, sized(n))
	}
	for _, n := range []int{4097, 4098, 4100, 5000, 16000} {
		wantNeither(t, sized(n), api.ErrLong)
	}
	// As many as pairs can have.
	var l []api.Pair
	for _, p := range numbered(64) {
		l = append(l, api.Pair{Key: p.Key + strings.Repeat("x", 63-len(p.Key)), Value: strings.Repeat("v", 255)})
	}
	wantNeither(t, l, api.ErrLong)
}

func TestWhichErrorOfParseGoesFirst(t *testing.T) {
	many := bytes.Repeat([]byte("a=\x00"), 65)
	for _, x := range []struct {
		what   string
		p      []byte
		wanted api.Errno
	}{
		{"too many bytes that are no text", make([]byte, 4097), api.ErrLong},
		{"as many bytes as may be that are no text", make([]byte, 4096), api.ErrText},
		{"too many bytes, a key twice", bytes.Repeat([]byte("a=1\x00"), 1025), api.ErrLong},
		{"too many bytes that are no text, a key twice", append(bytes.Repeat([]byte("a=1\x00"), 1024), 'a'), api.ErrLong},
		{"too many pairs, no end", append(slices.Clone(many), "b="...), api.ErrText},
		{"too many pairs, no key", append(slices.Clone(many), "=\x00"...), api.ErrText},
		{"too many pairs, no sign", append([]byte("b\x00"), many...), api.ErrText},
		{"too many pairs, keys twice", many, api.ErrLong},
		{"as many pairs as may be, keys twice", many[:64*3], api.ErrExists},
		{"a key twice, no end", []byte("a=\x00a=\x00b="), api.ErrText},
		{"a key twice, one that is none", []byte("a=\x00a=\x00b/=\x00"), api.ErrText},
	} {
		if got, e := Parse(x.p); len(got) != 0 || e != x.wanted {
			t.Errorf("%s: %q, %d; want %d", x.what, got, e, x.wanted)
		}
	}
}

func TestWhichErrorOfWriteGoesFirst(t *testing.T) {
	with := func(l []api.Pair, more ...string) []api.Pair { return append(slices.Clone(l), pairs(more...)...) }
	for _, x := range []struct {
		what   string
		l      []api.Pair
		wanted api.Errno
	}{
		{"too many pairs, no key", with(numbered(64), "", ""), api.ErrLong},
		{"as many pairs as may be, no key", with(numbered(63), "", ""), api.ErrText},
		{"too many pairs, a key twice", with(numbered(64), "k0", ""), api.ErrLong},
		{"too many bytes, no key", with(sized(4100), "", ""), api.ErrText},
		{"too many bytes, no value", with(sized(4100), "a", "\n"), api.ErrText},
		{"too many bytes by a value that is none", pairs("a", strings.Repeat("v", 5000)), api.ErrText},
		{"too many bytes by a key that is none", pairs(strings.Repeat("k", 5000), ""), api.ErrText},
		{"no key in front of too many bytes", append(pairs("a b", ""), sized(4100)...), api.ErrText},
		{"too many bytes, a key twice", with(sized(4097), "Aa", ""), api.ErrLong},
		{"a key twice, no value", pairs("a", "", "a", "", "b", "\x7f"), api.ErrText},
		{"a key that is none twice", pairs("", "", "", ""), api.ErrText},
		{"as many bytes as may be, a key twice", with(sized(4092), "Aa", ""), api.ErrExists},
	} {
		if got, e := Write(x.l); len(got) != 0 || e != x.wanted {
			t.Errorf("%s: %q, %d; want %d", x.what, got, e, x.wanted)
		}
	}
}

func TestAnyPairs(t *testing.T) {
	r := rand.New(rand.NewSource(18))
	count := map[api.Errno]int{}
	for range 10000 {
		l := anyPairs(r)
		wanted, e := modelWrite(l)
		count[e]++
		if e != api.OK {
			wantNoWrite(t, l, e)
			continue
		}
		wantWrite(t, l, wanted)
		wantParse(t, wanted, l)
	}
	for _, e := range []api.Errno{api.OK, api.ErrLong, api.ErrExists, api.ErrText} {
		if count[e] < 100 {
			t.Errorf("only %d answers %d", count[e], e)
		}
	}
}

func TestAnyTexts(t *testing.T) {
	r := rand.New(rand.NewSource(19))
	count := map[api.Errno]int{}
	for range 10000 {
		p := join(anyPairs(r))
		for range r.Intn(3) * r.Intn(2) {
			if len(p) > 0 {
				p[r.Intn(len(p))] = "=\x00a \xff"[r.Intn(5)]
			}
		}
		if r.Intn(10) == 0 {
			p = p[:r.Intn(len(p)+1)]
		}
		ahead := bytes.Clone(p)
		wanted, e := modelParse(p)
		count[e]++
		if e == api.OK {
			wantParse(t, p, wanted)
		} else {
			wantNoParse(t, p, e)
		}
		if !bytes.Equal(p, ahead) {
			t.Fatalf("%q was changed to %q", ahead, p)
		}
	}
	for _, e := range []api.Errno{api.OK, api.ErrLong, api.ErrExists, api.ErrText} {
		if count[e] < 100 {
			t.Errorf("only %d answers %d", count[e], e)
		}
	}
}

// P18.3

func TestFind(t *testing.T) {
	l := pairs("a", "1", "b", "", "a", "2", "", "nothing", "no key", "x\x00")
	for _, x := range []struct {
		l     []api.Pair
		k     string
		value string
		found bool
	}{
		{l, "a", "1", true},
		{l[1:], "a", "2", true},
		{l[3:], "a", "", false},
		{l, "b", "", true},
		{l, "A", "", false},
		{l, "c", "", false},
		{l, "aa", "", false},
		{l, "", "nothing", true},
		{l[:3], "", "", false},
		{l, "no key", "x\x00", true},
		{l, "1", "", false},
		{nil, "a", "", false},
		{nil, "", "", false},
		{[]api.Pair{}, "", "", false},
	} {
		if value, found := Find(x.l, x.k); value != x.value || found != x.found {
			t.Errorf("Find(%q, %q) = %q, %v; want %q, %v", x.l, x.k, value, found, x.value, x.found)
		}
	}
}

// Memory.

// spoil writes over bytes and their spare room; twice is not as if never.
func spoil(p []byte) {
	p = p[:cap(p)]
	for i := range p {
		p[i]++
	}
}

// spoilPairs writes over pairs and their spare room.
func spoilPairs(l []api.Pair) {
	l = l[:cap(l)]
	for i := range l {
		l[i].Key += "!"
		l[i].Value += "!"
	}
}

func TestMemoryOfParse(t *testing.T) {
	for _, n := range []int{0, 1, 2, 3, 5, 64} {
		room := append(join(numbered(n)), "b=2"...)
		size := len(room) - 3
		ahead := bytes.Clone(room)
		first, _ := Parse(room[:size])
		second, _ := Parse(room[:size])
		if !bytes.Equal(room, ahead) {
			t.Errorf("%q became %q", ahead, room)
		}
		spoilPairs(first)
		spoil(room)
		if !slices.Equal(second, numbered(n)) {
			t.Errorf("Parse shares memory with its argument or an earlier answer: %q", second)
		}
	}
}

func TestMemoryOfWrite(t *testing.T) {
	for _, n := range []int{0, 1, 2, 3, 5, 64} {
		room := append(numbered(n), pairs("a", "1", "a", "2")...)
		ahead := slices.Clone(room)
		first, _ := Write(room[:n])
		second, _ := Write(room[:n])
		Find(room[:n], "a")
		if !slices.Equal(room, ahead) {
			t.Errorf("%q became %q", ahead, room)
		}
		spoilPairs(room)
		spoil(first)
		if !bytes.Equal(second, join(numbered(n))) {
			t.Errorf("Write shares memory with its argument or an earlier answer: %q", second)
		}
	}
}
