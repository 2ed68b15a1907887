package shell

import (
	"encoding/hex"
	"fmt"
	"math/rand"
	"regexp"
	"slices"
	"strconv"
	"strings"
	"testing"

	"pallet/api"
	"pallet/inq"
	"pallet/sense"
	"pallet/unit"
	"pallet/world"
)

// model is a shell reckoned otherwise: a line is told apart by patterns ahead of anything else, and its whole last result is kept.
type model struct {
	w    *world.World
	u    *unit.Unit
	c    unit.Config
	last api.Result
}

var (
	aWord   = regexp.MustCompile(`[^ ]+`)
	aNumber = regexp.MustCompile(`^[0-9]{1,9}$`)
	someHex = regexp.MustCompile(`^([0-9a-fA-F][0-9a-fA-F])+$`)
)

// shapes tell what stands behind each command: n a number, b bytes, o bytes that may lack.
var shapes = map[string]string{"cmd": "nbo", "crash": "nn", "plan": "nn", "unit": "nn", "sense": "", "regs": "", "sync": "", "ops": ""}

func newModel() *model {
	m := &model{}
	m.renew(64, 0)
	return m
}

func (m *model) renew(blocks int, prot byte) api.Errno {
	c := unit.Config{Blocks: blocks, Info: inq.Info{Vendor: "PALLET", Product: "SHELL", Rev: "1", Serial: "S0", Prot: prot}}
	w := world.New()
	u, e := unit.New(w, "s", c)
	if e == api.OK {
		*m = model{w: w, u: u, c: c}
	}
	return e
}

// wrongAt tells where the words behind a command are at fault; -1: nowhere.
func wrongAt(line string, places [][]int, shape string) int {
	for at, kind := range shape {
		if at >= len(places) {
			if kind == 'o' {
				return -1
			}
			return len(line)
		}
		word := line[places[at][0]:places[at][1]]
		if kind == 'n' && !aNumber.MatchString(word) || kind != 'n' && !someHex.MatchString(word) {
			return places[at][0]
		}
	}
	if len(places) > len(shape) {
		return places[len(shape)][0]
	}
	return -1
}

func (m *model) line(line string) Reply {
	if len(line) > 400 {
		return Reply{E: 2}
	}
	places := aWord.FindAllStringIndex(line, -1)
	if len(places) == 0 {
		return Reply{}
	}
	var words []string
	for _, p := range places {
		words = append(words, line[p[0]:p[1]])
	}
	shape, there := shapes[words[0]]
	if !there {
		return Reply{At: places[0][0], E: 14}
	}
	if at := wrongAt(line, places[1:], shape); at >= 0 {
		return Reply{At: at, E: 13}
	}
	text, e := m.do(words)
	return Reply{Text: text, E: e}
}

// do does what a line that is right in itself says.
func (m *model) do(words []string) (string, api.Errno) {
	var n [2]int
	for at := range n {
		if at+1 < len(words) {
			n[at], _ = strconv.Atoi(words[at+1])
		}
	}
	switch words[0] {
	case "cmd":
		return m.cmd(n[0], words[2:]), 0
	case "crash":
		m.w.Crash(n[0], n[1])
		m.u, _ = unit.New(m.w, "s", m.c)
	case "plan":
		var list []int
		for i := n[0]; i < n[0]+n[1] && len(list) < 1000; i++ {
			list = append(list, i)
		}
		m.w.Plan(list, -1)
	case "unit":
		if n[1] > 255 {
			n[1] = 255
		}
		return "", m.renew(n[0], byte(n[1]))
	case "sense":
		return sense.Name(m.last.Sense.Code), 0
	case "regs":
		regs, kind, holder := m.u.Table()
		text := fmt.Sprintf("%d %d", kind, holder)
		for _, r := range regs {
			text += fmt.Sprintf(" %d:%x", r.Nexus, r.Key)
		}
		return text, 0
	case "sync":
		return "", m.w.Sync()
	case "ops":
		return fmt.Sprintf("%d %d", m.w.Ops(), m.w.Waits()), 0
	}
	return "", 0
}

func (m *model) cmd(nexus int, words []string) string {
	command, _ := hex.DecodeString(words[0])
	var out []byte
	if len(words) > 1 {
		out, _ = hex.DecodeString(words[1])
	}
	m.last = m.u.Do(nexus, command, out)
	text := fmt.Sprint(byte(m.last.Status))
	if m.last.Status == 2 {
		text += fmt.Sprintf(" %d %04x", m.last.Sense.Key, m.last.Sense.Code)
	}
	if len(m.last.Data) > 0 {
		text += fmt.Sprintf(" %x", m.last.Data)
	}
	return text
}

// anyLine tells a line that is right, and does often something.
func anyLine(r *rand.Rand) string {
	nexus := func() string { return strconv.Itoa(r.Intn(4)) }
	some := func(list ...string) string { return list[r.Intn(len(list))] }
	data := block(fmt.Sprintf("%02X", r.Intn(256)))
	lba := r.Intn(5)
	switch r.Intn(14) {
	case 0:
		return "sense"
	case 1:
		return "regs"
	case 2:
		return "ops"
	case 3:
		return "sync"
	case 4:
		return fmt.Sprintf("crash %d %d", r.Intn(4), r.Intn(30))
	case 5:
		return fmt.Sprintf("plan %d %d", r.Intn(6), r.Intn(3))
	case 6:
		return fmt.Sprintf("unit %s %s", some("0", "1", "4", "5", "64", "4097"), some("0", "0", "1", "2", "3", "4", "256"))
	case 7, 8:
		return "cmd " + nexus() + " " + read(lba)
	case 9:
		return "cmd " + nexus() + " " + some(write(lba), writeFUA(lba)) + " " + data
	case 10:
		return "cmd " + nexus() + " " + some(ready, ready, "12000000ff00", "03000000ff00", syncCache, readCapacity, "5e000000000000004000", "ff", "28")
	case 11:
		return "cmd " + nexus() + " " + prOut(some("06", "06", "00", "03"), "00") + " " + keys(uint64(r.Intn(3)), uint64(r.Intn(3)), r.Intn(2) == 0)
	case 12:
		return "cmd " + nexus() + " " + prOut(some("01", "01", "02", "04"), some("01", "03", "05", "07", "08", "02")) + " " + keys(uint64(r.Intn(3)), uint64(r.Intn(3)), false)
	}
	return "cmd " + nexus() + " 151100001000 00000000" + "0a0a" + some("00", "04") + "00" + some("00", "08") + "00000000000000"
}

// spoilt tells a line with something changed that may make it wrong.
func spoilt(r *rand.Rand, line string) string {
	at := r.Intn(len(line) + 1)
	switch r.Intn(7) {
	case 0:
		return line[:at]
	case 1:
		return line[at:]
	case 2:
		return line[:at] + blanks(r.Intn(3)) + line[at:]
	case 3:
		return line[:at] + string([]byte{byte(r.Intn(256))}) + line[at:]
	case 4:
		words := strings.Split(line, " ")
		i := r.Intn(len(words))
		return strings.Join(slices.Delete(words, i, i+1), " ")
	case 5:
		words := strings.Split(line, " ")
		i := r.Intn(len(words))
		return strings.Join(slices.Insert(words, i, words[r.Intn(len(words))]), blanks(1+r.Intn(2)))
	}
	return line + blanks(r.Intn(420))
}

// Shells answer as the model does, whatever lines there are; Run answers as they do (P2).
func TestAgainstAModel(t *testing.T) {
	r := rand.New(rand.NewSource(23))
	for range 400 {
		s, m := New(), newModel()
		var lines []string
		var replies []Reply
		for range 150 {
			line := anyLine(r)
			for r.Intn(4) == 0 {
				line = spoilt(r, line)
			}
			got, wanted := s.Line(line), m.line(line)
			if got != wanted {
				t.Fatalf("behind %q: Line(%q) = %+v; want %+v", lines, line, got, wanted)
			}
			lines, replies = append(lines, line), append(replies, got)
		}
		text := strings.Join(lines, "\n")
		if !strings.Contains(strings.Join(lines, ""), "\n") {
			wantRun(t, text+"\n", replies...)
		}
	}
}

// Lines of any bytes.
func TestAnyBytes(t *testing.T) {
	r := rand.New(rand.NewSource(1))
	s, m := New(), newModel()
	const often = "  00011aF9x:cmdcrashplanunitsenseregssyncops\x00\xff"
	for range 200000 {
		p := make([]byte, r.Intn(24))
		for at := range p {
			p[at] = often[r.Intn(len(often))]
		}
		line := string(p)
		if r.Intn(2) == 0 {
			names := []string{"cmd ", "crash ", "plan ", "unit ", "sense ", "regs ", "sync ", "ops "}
			line = names[r.Intn(len(names))] + line
		}
		if got, wanted := s.Line(line), m.line(line); got != wanted {
			t.Fatalf("Line(%q) = %+v; want %+v", line, got, wanted)
		}
	}
}
