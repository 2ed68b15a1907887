package shell

import (
	"fmt"
	"strings"
	"testing"

	"pallet/api"
)

// P23.1: words.

func TestLinesWithoutAWord(t *testing.T) {
	s := busy(t)
	before := state(s)
	for n := range api.MaxLine + 1 {
		want(t, s, blanks(n), "")
	}
	if after := state(s); after != before {
		t.Errorf("blanks have changed %s to %s", before, after)
	}
	wantFault(t, s, blanks(401), api.ErrLong, 0)
	wantFault(t, s, blanks(100000), api.ErrLong, 0)
}

func TestBlanksAnywhere(t *testing.T) {
	for _, front := range []int{0, 1, 2, 7} {
		for _, between := range []int{1, 2, 9} {
			for _, behind := range []int{0, 1, 5} {
				s := awake(t)
				line := func(words ...string) string {
					return blanks(front) + strings.Join(words, blanks(between)) + blanks(behind)
				}
				want(t, s, line("cmd", "0", writeFUA(1), block("5a")), "0")
				want(t, s, line("crash", "0", "0"), "")
				want(t, s, line("cmd", "3", read(1)), "2 6 2900")
				want(t, s, line("cmd", "3", read(1)), "0 "+block("5a"))
				want(t, s, line("sense"), "no additional sense information")
				want(t, s, line("regs"), "0 -1")
				want(t, s, line("plan", "0", "0"), "")
				want(t, s, line("sync"), "")
				want(t, s, line("ops"), "1 0")
				want(t, s, line("unit", "4", "1"), "")
				want(t, s, line("ops"), "0 0")
			}
		}
	}
}

// Every byte but the blank belongs to a word.
func TestOtherBytesBelongToWords(t *testing.T) {
	s := busy(t)
	for b := range 256 {
		c := string([]byte{byte(b)})
		if c == " " {
			continue
		}
		wantFault(t, s, c, api.ErrName, 0)
		wantFault(t, s, "  "+c, api.ErrName, 2)
		wantFault(t, s, c+"ops", api.ErrName, 0)
		wantFault(t, s, " ops"+c, api.ErrName, 1)
		wantFault(t, s, "o"+c+"ps", api.ErrName, 0)
		wantFault(t, s, "ops"+c+"0", api.ErrName, 0)
		wantFault(t, s, "ops "+c, api.ErrText, 4)
		wantFault(t, s, "crash 0"+c+"0", api.ErrText, crashFault(c))
	}
}

// crashFault tells where the words crash 0c0 are at fault: a digit between leaves one too few.
func crashFault(c string) int {
	if c >= "0" && c <= "9" {
		return 9
	}
	return 6
}

func TestLongestLines(t *testing.T) {
	for _, word := range []string{"ops", "regs", "sense", "sync", "plan 0 0", "crash 0 0", "unit 4 0", "cmd 0 " + ready} {
		s := awake(t)
		long := word + blanks(401-len(word))
		wantFault(t, s, long, api.ErrLong, 0)
		wantFault(t, s, blanks(401-len(word))+word, api.ErrLong, 0)
		for _, line := range []string{long[:400], blanks(400-len(word)) + word} {
			if r := s.Line(line); len(line) != 400 || r.E != api.OK || r.At != 0 {
				t.Errorf("Line(%q) = %+v", line, r)
			}
		}
	}
	s := busy(t)
	wantFault(t, s, strings.Repeat("x", 400), api.ErrName, 0)
	wantFault(t, s, strings.Repeat("x", 401), api.ErrLong, 0)
	wantFault(t, s, blanks(399)+"x", api.ErrName, 399)
	wantFault(t, s, blanks(400)+"x", api.ErrLong, 0)
	wantFault(t, s, "crash 1"+blanks(393), api.ErrText, 400)
	wantFault(t, s, "crash 1"+blanks(394), api.ErrLong, 0)
	wantFault(t, s, strings.Repeat("\xff", 1<<20), api.ErrLong, 0)
	wantFault(t, s, strings.Repeat("é", 200), api.ErrName, 0)
	wantFault(t, s, strings.Repeat("é", 201), api.ErrLong, 0)
}

// A command that fills a line to its last byte.
func TestLongestBytes(t *testing.T) {
	s := awake(t)
	line := "cmd 0 " + "2a000000000000000b00" + " " + strings.Repeat("3c", 11*16)
	want(t, s, line, "0")
	want(t, s, "cmd 0 "+ready+strings.Repeat("0", 382), "0")
	wantFault(t, s, "cmd 0 "+ready+strings.Repeat("0", 383), api.ErrLong, 0)
	wantFault(t, s, "cmd 00 "+ready+strings.Repeat("0", 381), api.ErrText, 7)
	want(t, s, "cmd 0 "+read(10), "0 "+block("3c"))
	want(t, s, "cmd 0 "+read(11), "0 "+block("00"))
}

// Numbers.

func TestNumbers(t *testing.T) {
	for word, blocks := range map[string]int{
		"1": 1, "7": 7, "9": 9, "10": 10, "64": 64, "4096": 4096,
		"007": 7, "000000001": 1, "000004096": 4096, "01": 1, "000000010": 10, "0123": 123,
	} {
		s := New()
		want(t, s, "unit "+word+" 0", "")
		want(t, s, "cmd 0 "+readCapacity, "2 6 2900")
		want(t, s, "cmd 0 "+readCapacity, fmt.Sprintf("0 %08x00000010", blocks-1))
	}
	s := busy(t)
	for _, word := range []string{"0", "00", "000000000", "4097", "999999999", "100000000"} {
		wantFault(t, s, "unit "+word+" 0", api.ErrArg, 0)
	}
	for _, word := range noNumbers {
		wantFault(t, s, "unit "+word+" 0", api.ErrText, 5)
		wantFault(t, s, "unit 4 "+word, api.ErrText, 7)
		wantFault(t, s, "crash "+word+" 0", api.ErrText, 6)
		wantFault(t, s, "crash 0 "+word, api.ErrText, 8)
		wantFault(t, s, "plan "+word+" 0", api.ErrText, 5)
		wantFault(t, s, "plan 0 "+word, api.ErrText, 7)
		wantFault(t, s, "cmd "+word+" "+ready, api.ErrText, 4)
	}
}

// noNumbers are words that are none.
var noNumbers = []string{
	"x", "-", "-1", "-0", "+1", "+", "1.", ".5", "1e3", "0x1", "0b1", "1_0", "a", "f", "1a", "a1", "１", "1\t", "\t1", "1\x00", "\x001", "é", "\xff", "1,2", "٣",
	"/", ":", "1/", ":1", "0000000000", "1000000000", "4294967297", "18446744073709551617", "0000000001", "9999999999", "12345678x", "x23456789",
}

// Each byte in each place of a number, and of bytes.
func TestEachByteOfAWord(t *testing.T) {
	s := New()
	want(t, s, "cmd 0 "+ready, "2 6 2900")
	for at := range 3 {
		for b := range 256 {
			p := []byte("555")
			p[at] = byte(b)
			line := "plan 0 " + string(p)
			switch c := byte(b); {
			case c >= '0' && c <= '9':
				want(t, s, line, "")
			case c == ' ' && at == 1:
				wantFault(t, s, line, api.ErrText, 9)
			case c == ' ':
				want(t, s, line, "")
			default:
				wantFault(t, s, line, api.ErrText, 7)
			}
		}
	}
	want(t, s, "plan 0 0", "")
	for at := range len(ready) {
		for b := range 256 {
			p := []byte(ready)
			p[at] = byte(b)
			if c := byte(b); c == ' ' || strings.IndexByte("0123456789abcdefABCDEF", c) >= 0 {
				continue
			}
			wantFault(t, s, "cmd 0 "+string(p), api.ErrText, 6)
			wantFault(t, s, "cmd 0 "+ready+" "+string(p), api.ErrText, 19)
		}
	}
}

// Bytes.

func TestBytes(t *testing.T) {
	s := awake(t)
	for lba, word := range []string{
		"000102030405060708090a0b0c0d0e0f",
		"A0B1C2D3E4F5061728394a5b6c7d8e9f",
		"ffFFfFFfaAAabBcCdDeEABCDEFabcdef",
		block("00"), block("ff"), block("FF"), block("80"),
	} {
		want(t, s, "cmd 0 "+write(lba)+" "+word, "0")
		want(t, s, "cmd 0 "+strings.ToUpper(read(lba)), "0 "+strings.ToLower(word))
	}
	for _, word := range noBytes {
		wantFault(t, s, "cmd 0 "+word, api.ErrText, 6)
		wantFault(t, s, "cmd 0 "+word+" 00", api.ErrText, 6)
		wantFault(t, s, "cmd 0 "+ready+" "+word, api.ErrText, 19)
	}
	want(t, s, "cmd 0 00", "2 5 2400")
	want(t, s, "cmd 0 ff", "2 5 2000")
	want(t, s, "cmd 0 "+ready+" 00", "0")
	want(t, s, "cmd 0 "+write(0)+" 00", "2 5 1a00")
	want(t, s, "cmd 0 "+write(0), "2 5 1a00")
}

// noBytes are words that are none.
var noBytes = []string{
	"0", "f", "000", "00000", "0x", "0x00", "0X00", "x0", "0g", "g0", "G0", "zz", "0\x00", "-1", "+1", "0_", "00_00", "é", "é0", "１", "00\t", "00\n", "00,00", "00:00",
	"0102030405060708090a0b0c0d0e0", "00000000000g", "g00000000000", "/0", "0:", "@0", "`0",
}

// P23.3: faults, by each command's words.

// forms are lines of each command that are right, word by word.
var forms = []struct {
	words []string
	least int // so many of the words must stand there
}{
	{[]string{"cmd", "0", ready, "00"}, 3},
	{[]string{"crash", "0", "0"}, 3},
	{[]string{"plan", "0", "0"}, 3},
	{[]string{"unit", "4", "0"}, 3},
	{[]string{"sense"}, 1},
	{[]string{"regs"}, 1},
	{[]string{"sync"}, 1},
	{[]string{"ops"}, 1},
}

func TestWordsTooFew(t *testing.T) {
	s := busy(t)
	for _, f := range forms {
		for n := 1; n < f.least; n++ {
			line := strings.Join(f.words[:n], " ")
			for _, more := range []int{0, 1, 4} {
				wantFault(t, s, line+blanks(more), api.ErrText, len(line)+more)
				wantFault(t, s, blanks(more)+line, api.ErrText, len(line)+more)
			}
		}
	}
}

func TestWordsTooMany(t *testing.T) {
	s := busy(t)
	for _, f := range forms {
		line := strings.Join(f.words, " ")
		for _, word := range []string{"0", "00", "x", "ops", "\x00", "é", "-", "0 0", "x 0", "0 x"} {
			wantFault(t, s, line+" "+word, api.ErrText, len(line)+1)
			wantFault(t, s, line+"   "+word+"  ", api.ErrText, len(line)+3)
			wantFault(t, s, "  "+line+" "+word, api.ErrText, len(line)+3)
		}
	}
}

// A word that is wrong is told, whatever is wrong behind it: other words too, too few or too many.
func TestWordsThatAreWrong(t *testing.T) {
	s := busy(t)
	for _, f := range forms {
		for at := 1; at < len(f.words); at++ {
			front := strings.Join(f.words[:at], " ") + " "
			for _, word := range []string{"x", "-1", "0g", "é", "0123456789a", "ops", "\t"} {
				for _, behind := range []string{"", " ", " 0", " x", " x y", " 0 0 0 0", " " + strings.Join(f.words[at:], " ")} {
					wantFault(t, s, front+word+behind, api.ErrText, len(front))
					wantFault(t, s, " "+front+"  "+word+behind, api.ErrText, len(front)+3)
				}
			}
		}
	}
}

// An unknown name is told ahead of what stands behind it; the length of the line ahead of that.
func TestNamesOfNoCommand(t *testing.T) {
	s := busy(t)
	for _, name := range []string{
		"what", "x", "0", "00", "-", "Cmd", "CMD", "cmD", "cm", "cmdx", "xcmd", "crashes", "Crash", "plan0", "units", "senses", "sens", "reg", "Regs", "sync.", "syn", "op", "opss", "OPS",
		"help", "exit", "quit", "#", "\"ops\"", "ops\n", "ops\r", "\nops", "ops\t0", "ops,", "cmd0", "crash\x000", "é", "\xff", "\x00", "new", "line", "run",
	} {
		for _, behind := range []string{"", " ", " 0", " 0 0", " 0 " + ready, " x y z", " ops"} {
			wantFault(t, s, name+behind, api.ErrName, 0)
			wantFault(t, s, "   "+name+behind, api.ErrName, 3)
			wantFault(t, s, name+behind+blanks(401), api.ErrLong, 0)
		}
	}
}

// What is wrong with the words goes ahead of what the command would answer.
func TestWordsGoAheadOfErrors(t *testing.T) {
	s := busy(t)
	want(t, s, "plan 0 1000", "")
	wantFault(t, s, "unit 0 x", api.ErrText, 7)
	wantFault(t, s, "unit 0", api.ErrText, 6)
	wantFault(t, s, "unit 0 4 0", api.ErrText, 9)
	wantFault(t, s, "unit 1 256 x", api.ErrText, 11)
	wantFault(t, s, "sync 0", api.ErrText, 5)
	wantFault(t, s, "sync"+blanks(400), api.ErrLong, 0)
	wantFault(t, s, "unit 0 0"+blanks(400), api.ErrLong, 0)
}
