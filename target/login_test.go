package target

import (
	"bytes"
	"encoding/hex"
	"fmt"
	"slices"
	"strings"
	"testing"

	"pallet/api"
	"pallet/chap"
	"pallet/login"
)

// The login.

// secured tells a target that asks for a secret.
func secured() Config {
	c := usual()
	c.Login.Users = []login.User{{Name: "u", Secret: "s"}, {Name: "v", Secret: "secret"}}
	return c
}

// challenged has an initiator come so far over a connection that the challenge is told, and tells the challenge's id and bytes as it was told them.
func (r *rig) challenged(n int, initiator string) (byte, []byte) {
	r.t.Helper()
	r.send(n, loginReq(0x00, asInitiator(initiator, "AuthMethod=CHAP")...))
	r.wantNews(n, "login 00 00000000 AuthMethod=CHAP;")
	r.send(n, loginReq(0x00, "CHAP_A=5"))
	list := r.news(n)
	if len(list) != 1 {
		r.t.Fatalf("no challenge: %v", list)
	}
	var id byte
	var told string
	pairs := strings.NewReplacer("\x00", " ", "=", " = ").Replace(string(list[0].Data))
	if _, err := fmt.Sscanf(pairs, "CHAP_A = 5 CHAP_I = %d CHAP_C = 0x%s", &id, &told); err != nil {
		r.t.Fatalf("the challenge %q: %v", pairs, err)
	}
	challenge, err := hex.DecodeString(told)
	if err != nil {
		r.t.Fatalf("the challenge %q: %v", told, err)
	}
	return id, challenge
}

// prove has an initiator log in over a connection with a user's secret.
func (r *rig) prove(n int, initiator, user, secret string) {
	r.t.Helper()
	id, challenge := r.challenged(n, initiator)
	r.send(n, loginReq(0x83, "CHAP_N="+user, "CHAP_R="+chap.Answer(id, secret, challenge)))
	r.wantNews(n, "login 83 00000000 ")
}

// wantLogin holds the bytes of the LoginResp to a first PDU against those that are wanted.
func wantLogin(t *testing.T, c Config, p api.PDU, wanted string) {
	t.Helper()
	r := newRig(t, c)
	r.connect(0)
	r.send(0, p)
	if got := r.Out(0); !bytes.Equal(got, mustHex(wanted)) {
		t.Errorf("%v: %x; want %s", p, got, wanted)
	}
}

func TestLoginBytes(t *testing.T) {
	p := loginReq(0x87, asInitiator("i")...)
	wantLogin(t, usual(), p, "23 87 0000 00 000000 00 00 000000000000 0000004d 00000000 00000000 00000005 00000014 00000000 00000000 00000000")
	p.Tag, p.Words = 0xfedcba98, [7]uint32{1, 0xfffffffe, 3, 4, 5, 6, 7}
	wantLogin(t, usual(), p, "23 87 0000 00 000000 00 00 000000000000 fedcba98 00000000 00000000 fffffffe 0000000d 00000000 00000000 00000000")
	p.LUN, p.Res, p.Stat, p.Flags = 3, 4, 5, 0x87|0x70
	wantLogin(t, usual(), p, "23 87 0000 00 000000 00 00 000000000000 fedcba98 00000000 00000000 fffffffe 0000000d 00000000 00000000 00000000")
	p = loginReq(0x04, asInitiator("j", "X=")...)
	wantLogin(t, usual(), p, "23 04 0000 00 000010 00 00 000000000000 0000004d 00000000 00000000 00000005 00000014 00000000 00000000 00000000"+
		hex.EncodeToString([]byte("X=NotUnderstood\x00")))
}

func TestLoginStages(t *testing.T) {
	for _, one := range []struct {
		flags  byte
		wanted string // none: it is gone
		in     bool
	}{
		{0x87, "login 87 00000000 ", true},
		{0x83, "login 83 00000000 ", true},
		{0x81, "login 81 00000000 ", false},
		{0x80, "", false}, // to the stage in which it is
		{0x82, "", false}, // to no stage
		{0x84, "", false},
		{0x85, "", false},
		{0x86, "", false},
		{0x00, "login 00 00000000 ", false},
		{0x03, "login 00 00000000 ", false},
		{0x07, "login 04 00000000 ", false},
		{0x08, "", false},
		{0x0c, "", false},
		{0x8f, "", false},
		{0xf7, "login 87 00000000 ", true},
	} {
		r := newRig(t, usual())
		r.connect(3)
		r.send(3, loginReq(one.flags, asInitiator("j")...))
		if one.wanted == "" {
			r.wantThere(3, false)
			continue
		}
		r.wantNews(3, one.wanted)
		r.wantThere(3, true)
		if one.in {
			r.wantNexus(-1, -1, -1, 1)
		} else {
			r.wantNexus()
		}
	}
}

func TestLoginInSteps(t *testing.T) {
	r := newRig(t, usual())
	r.connect(0)
	r.send(0, loginReq(0x00, asInitiator("i")...))
	r.wantNews(0, "login 00 00000000 ")
	r.wantNexus()
	second := loginReq(0x81, "MaxBurstLength=1024")
	second.Words[1] = 1000
	second.Tag = 1
	r.send(0, second)
	list := r.news(0)
	// What counts is the number that the first PDU told.
	if len(list) != 1 || list[0].Tag != 1 || list[0].Words != [7]uint32{0, 0, 5, 20} || string(list[0].Data) != "MaxBurstLength=1024\x00" {
		t.Errorf("the second step: %v", list)
	}
	r.wantNexus()
	r.send(0, loginReq(0x04, "Any=1", "HeaderDigest=CRC32C"))
	r.wantNews(0, "login 04 00000000 Any=NotUnderstood;HeaderDigest=Reject;")
	r.wantNexus()
	third := loginReq(0x87)
	third.Words[1] = 9
	r.send(0, third)
	r.wantNews(0, "login 87 00000000 ")
	r.wantNexus(0)
	r.send(0, nop(1))
	if list := r.news(0); len(list) != 1 || list[0].Words != [7]uint32{0xffffffff, 1, 5, 20} {
		t.Errorf("the session: %v", list)
	}
	// A step back is none.
	r.connect(1)
	r.send(1, loginReq(0x81, asInitiator("j")...))
	r.send(1, loginReq(0x83))
	r.wantThere(1, false)
}

func TestLoginIsGone(t *testing.T) {
	twice := loginReq(0x87, asInitiator("i", "X=1", "X=2")...)
	noText := loginReq(0x87, asInitiator("i")...)
	noText.Data = noText.Data[:len(noText.Data)-1]
	noKey := loginReq(0x87, asInitiator("i", "X")...)
	many := loginReq(0x87, asInitiator("i")...)
	for at := range 63 {
		many.Data = append(many.Data, fmt.Sprintf("X%d=\x00", at)...)
	}
	long := loginReq(0x87, asInitiator("i")...)
	for at := range 16 {
		long.Data = append(long.Data, fmt.Sprintf("X%d=%s\x00", at, strings.Repeat("x", 255))...)
	}
	list := []api.PDU{
		twice, noText, noKey, many, long,
		nop(1), command(0, 1, 0, 0, ready), function(0, 1, 5, 0), logout(1), {}, {Op: 0x23},
		loginReq(0x87),
		loginReq(0x87, "InitiatorName=i"),
		loginReq(0x87, "TargetName=t"),
		loginReq(0x87, "InitiatorName=i", "TargetName=u"),
		loginReq(0x87, asInitiator("i", "SessionType=Other")...),
		loginReq(0x87, asInitiator("i", "AuthMethod=CHAP")...),
		loginReq(0x87, asInitiator("nobody")...),
		loginReq(0x87, asInitiator("I")...),
		loginReq(0x87, asInitiator("")...),
		loginReq(0x04, asInitiator("nobody")...), // at the first step, whether it is done or not
		loginReq(0x87, "InitiatorName=nobody", "SessionType=Discovery"),
	}
	for _, op := range []byte{0x03, 0x83, 0xc3, 0x42, 0x44} {
		p := loginReq(0x87, asInitiator("i")...)
		p.Op = op
		list = append(list, p)
	}
	for _, p := range list {
		r := newRig(t, usual())
		r.connect(0)
		r.send(0, p, loginReq(0x87, asInitiator("i")...))
		r.wantThere(0, false)
		// It may come again.
		r.logIn(0, "i")
		r.wantNexus(0)
	}
	// Behind a first step, too.
	for _, p := range list[:12] {
		if slices.Equal(p.Data, list[11].Data) && p.Op == 0x43 {
			continue // that is right there
		}
		r := newRig(t, usual())
		r.connect(0)
		r.send(0, loginReq(0x04, asInitiator("i")...))
		r.wantNews(0, "login 04 00000000 ")
		r.send(0, p)
		r.wantThere(0, false)
	}
}

// A login that is over, as no connection keeps one, takes no step: the connection is gone, without an answer.
func TestStepOfLoginThatIsOver(t *testing.T) {
	r := newRig(t, usual())
	r.connect(0)
	r.send(0, loginReq(0x04, asInitiator("i")...))
	r.wantNews(0, "login 04 00000000 ")
	if a, e := r.conns[0].login.Step(login.Request{Stage: 2}); a.Class != 2 || e != api.OK {
		t.Fatalf("Step = %v, %d", a, e)
	}
	r.send(0, loginReq(0x87), nop(1))
	r.wantThere(0, false)
	r.logIn(0, "i")
}

func TestLoginOfMostKeys(t *testing.T) {
	p := loginReq(0x87, asInitiator("i")...)
	for at := range 62 {
		p.Data = append(p.Data, fmt.Sprintf("X%d=\x00", at)...)
	}
	r := newRig(t, usual())
	r.connect(0)
	r.send(0, p)
	list := r.news(0)
	if len(list) != 1 || bytes.Count(list[0].Data, []byte("=NotUnderstood\x00")) != 62 {
		t.Errorf("62 keys: %v", list)
	}
}

// Keys that can't be a text are none.
func TestAnswerIsNoText(t *testing.T) {
	r := newRig(t, secured())
	r.connect(0)
	r.send(0, loginReq(0x00, asInitiator("i", "AuthMethod=CHAP", "CHAP_A=5", "CHAP_I=1")...))
	r.wantNews(0, "login 00 00000000 ")
	r.wantThere(0, true)
	// Too long: each of the keys that no one knows grows.
	p := loginReq(0x04, asInitiator("i")...)
	for at := range 62 {
		p.Data = append(p.Data, fmt.Sprintf("%02d%s=\x00", at, strings.Repeat("x", 55))...)
	}
	r = newRig(t, usual())
	r.connect(0)
	r.send(0, p)
	r.wantNews(0, "login 04 00000000 ")
	r.wantThere(0, true)
}

func TestStrangers(t *testing.T) {
	// The name is looked at behind what the login itself refuses, and alone counts as a whole.
	for _, name := range []string{"ii", "i ", "k,", "t", "u", "-1", "0"} {
		r := newRig(t, usual())
		r.connect(0)
		r.send(0, loginReq(0x04, asInitiator(name)...))
		r.wantThere(0, false)
	}
	for nexus, name := range []string{"i", "j", "k"} {
		r := newRig(t, usual())
		r.logIn(7-nexus, name)
		for n := range 8 {
			if got := r.Nexus(n); (n == 7-nexus) != (got == nexus) || n != 7-nexus && got != -1 {
				t.Errorf("%s: Nexus(%d) = %d", name, n, got)
			}
		}
	}
}

// P7: without the secret no command runs.
func TestSecrets(t *testing.T) {
	for _, one := range []struct {
		user, secret string
		ok           bool
	}{{"u", "s", true}, {"v", "secret", true}, {"u", "secret", false}, {"w", "s", false}, {"", "", false}, {"i", "s", false}} {
		r := newRig(t, secured())
		r.connect(0)
		id, challenge := r.challenged(0, "i")
		if id != 1 || !bytes.Equal(challenge, []byte{1, 1 ^ 0x5a, 0xc3}) {
			t.Fatalf("the challenge is %d %x", id, challenge)
		}
		before := r.w.Ops()
		r.send(0, loginReq(0x83, "CHAP_N="+one.user, "CHAP_R="+chap.Answer(id, one.secret, challenge)),
			command(0, 1, writes, 16, writeFUA(0, 1), fill(9, 16)...))
		r.wantThere(0, one.ok)
		if !one.ok {
			r.wantReady(0)
			if r.Unit(0).Count() != 0 || r.w.Ops() != before {
				t.Errorf("a command ran without the secret")
			}
			continue
		}
		r.wantNexus(0)
		r.wantReady(1)
	}
}

func TestNoWayAroundSecrets(t *testing.T) {
	for _, list := range [][]api.PDU{
		{loginReq(0x87, asInitiator("i")...)},
		{loginReq(0x83, asInitiator("i", "AuthMethod=None")...)},
		{loginReq(0x83, asInitiator("i", "AuthMethod=CHAP")...), loginReq(0x87)},
		{loginReq(0x00, asInitiator("i")...), loginReq(0x00, "CHAP_A=5")},
		{loginReq(0x00, asInitiator("i")...), loginReq(0x00, "CHAP_N=u", "CHAP_R=0x00")},
		{loginReq(0x87, "InitiatorName=i", "SessionType=Discovery")},
		{loginReq(0x00, asInitiator("i", "AuthMethod=CHAP")...), command(0, 1, 0, 0, ready)},
	} {
		r := newRig(t, secured())
		r.connect(0)
		r.send(0, list...)
		r.wantThere(0, false)
	}
	for _, list := range [][]api.PDU{
		{loginReq(0x83, asInitiator("i")...)},
		{loginReq(0x83, asInitiator("i", "AuthMethod=CHAP")...)},
	} {
		r := newRig(t, secured())
		r.connect(0)
		r.send(0, list...)
		r.wantThere(0, true)
		r.wantNexus()
		r.send(0, command(0, 1, 0, 0, ready))
		r.wantThere(0, false)
		r.wantReady(0)
	}
}

// The draw is one more at the first PDU of each login, whatever comes of it, and goes round behind 255.
func TestDraw(t *testing.T) {
	r := newRig(t, secured())
	wanted := byte(0)
	for at := range 600 {
		n := at % 8
		r.connect(n)
		switch at % 7 {
		case 1: // none that begins
			r.send(n, nop(1))
			r.wantThere(n, false)
			r.connect(n)
		case 2: // one that fails
			r.send(n, loginReq(0x87, asInitiator("i")...))
			r.wantThere(n, false)
			r.connect(n)
			wanted++
		case 3: // one of a stranger
			r.send(n, loginReq(0x00, asInitiator("nobody")...))
			r.wantThere(n, false)
			r.connect(n)
			wanted++
		case 4: // a text that is none
			p := loginReq(0x00)
			p.Data = []byte("x")
			r.send(n, p)
			r.wantThere(n, false)
			r.connect(n)
		case 5:
			r.crash(0, 0)
			r.connect(n)
		}
		wanted++
		id, challenge := r.challenged(n, "i")
		if id != wanted || !bytes.Equal(challenge, []byte{wanted, wanted ^ 0x5a, 0xc3}) {
			t.Fatalf("the login %d: %d %x; want %d", at, id, challenge, wanted)
		}
		r.do(Event{Kind: Drop, Conn: n})
	}
}

// Two logins at the same time have each a draw of their own.
func TestDrawsBesideOneAnother(t *testing.T) {
	r := newRig(t, secured())
	r.connect(0)
	r.connect(1)
	one, challengeOne := r.challenged(1, "j")
	two, challengeTwo := r.challenged(0, "i")
	if one != 1 || two != 2 {
		t.Errorf("the draws are %d and %d", one, two)
	}
	r.send(0, loginReq(0x83, "CHAP_N=u", "CHAP_R="+chap.Answer(two, "s", challengeTwo)))
	r.send(1, loginReq(0x83, "CHAP_N=u", "CHAP_R="+chap.Answer(one, "s", challengeOne)))
	r.wantNexus(0, 1)
}

func TestDiscovery(t *testing.T) {
	c := usual()
	c.Login.Targets = []string{"t", "other"}
	r := newRig(t, c).awake()
	r.logIn(0, "i")
	r.send(0, plainTask(0, 1, 1))
	r.connect(1)
	r.send(1, loginReq(0x87, "InitiatorName=i", "SessionType=Discovery"))
	r.wantNews(1, "login 87 00000000 ")
	// It has no nexus, and the one of that name stays.
	r.wantNexus(0, -1)
	r.wantReady(1)
	r.send(1, api.PDU{Op: 0x44, Flags: 0x80, Tag: 2, Data: []byte("SendTargets=All\x00")})
	r.wantNews(1, "text 2 TargetName=t;TargetName=other;")
	r.send(1, command(0, 3, 0, 0, ready), command(0, 4, reads, 255, luns))
	r.wantNews(1, "refused 4", "refused 4")
	for code := range byte(8) {
		r.send(1, function(0, 5, code, 1))
		r.wantNews(1, "told 5 2")
	}
	r.wantReady(1)
	r.do(Event{Kind: Drop, Conn: 1})
	r.wantReady(1)
	r.step(0)
	r.wantNews(0, good(1))
	// Nor does an ordinary login of that name end it.
	r.connect(1)
	r.send(1, loginReq(0x87, "InitiatorName=i", "SessionType=Discovery"))
	r.logIn(2, "i")
	r.wantThere(0, false)
	r.wantThere(1, true)
	r.wantNexus(-1, -1, 0)
}

// The text of an ordinary session tells its own target.
func TestTargetsOfSession(t *testing.T) {
	c := usual()
	c.Login.Targets = []string{"other", "t"}
	r := newRig(t, c)
	r.logIn(0, "i")
	r.send(0, api.PDU{Op: 0x44, Flags: 0x80, Tag: 2, Data: []byte("SendTargets=\x00")})
	r.wantNews(0, "text 2 TargetName=t;")
}

// An answer that is too long for a PDU has no bytes; what follows it goes out.
func TestTooLongToGoOut(t *testing.T) {
	c := usual()
	for at := range 9 {
		c.Login.Targets = append(c.Login.Targets, strings.Repeat(string(rune('a'+at)), 1000))
	}
	r := newRig(t, c)
	r.connect(0)
	r.send(0, loginReq(0x87, "InitiatorName=i", "SessionType=Discovery"))
	r.news(0)
	r.send(0, api.PDU{Op: 0x44, Flags: 0x80, Tag: 2, Data: []byte("SendTargets=All\x00")}, nop(3))
	list := r.news(0)
	if len(list) != 1 || list[0].Op != 0x20 || list[0].Words[1] != 2 {
		t.Errorf("behind what is too long: %v", list)
	}
}

func TestSecondConnection(t *testing.T) {
	r := twoIn(t)
	r.send(0, plainTask(0, 1, 1), plainTask(1, 2, 1), api.PDU{Op: 0x41, Flags: 0xa0, Tag: 3, Words: [7]uint32{32}})
	r.send(1, plainTask(0, 1, 1))
	r.wantReady(3)
	r.connect(4)
	r.send(4, loginReq(0x04, asInitiator("i")...))
	r.wantReady(3)
	r.wantNexus(0, 1)
	r.send(4, loginReq(0x87))
	r.wantNews(4, "login 04 00000000 ", "login 87 00000000 ")
	r.wantNexus(-1, 1, -1, -1, 0)
	r.wantThere(0, false)
	r.wantReady(1)
	// The new one begins anew: no tag is there.
	r.send(4, plainTask(0, 1, 1))
	r.wantReady(2)
	r.step(1)
	r.wantNews(4, good(1))
	r.wantNews(1)
}

func TestLoginOverItself(t *testing.T) {
	r := twoIn(t)
	// Behind the login a LoginReq is refused like every other that a session doesn't know.
	r.send(0, loginReq(0x87, asInitiator("j")...))
	r.wantNews(0, "refused 5")
	r.wantNexus(0, 1)
}

func TestSums(t *testing.T) {
	c := usual()
	c.Login.Sums = true
	for _, headers := range []bool{false, true} {
		for _, data := range []bool{false, true} {
			words := map[bool]string{false: "None", true: "CRC32C"}
			r := newRig(t, c).awake()
			r.connect(0)
			r.send(0, loginReq(0x04, asInitiator("i", "HeaderDigest="+words[headers])...))
			r.wantNews(0, "login 04 00000000 HeaderDigest="+words[headers]+";")
			// As long as the login isn't done nothing has sums.
			last := r.bytesOf(0, loginReq(0x87, "DataDigest="+words[data]))
			r.headers[0], r.data[0] = headers, data
			behind := r.bytesOf(0, command(0, 1, writes, 16, write(0, 1), fill(9, 16)...), command(0, 2, reads, 16, read(0, 1)))
			r.do(Event{Kind: Bytes, Data: append(last, behind...)})
			r.headers[0], r.data[0] = false, false
			r.wantNews(0, "login 87 00000000 DataDigest="+words[data]+";")
			r.headers[0], r.data[0] = headers, data
			r.wantReady(2)
			r.step(0)
			r.step(0)
			r.wantNews(0, good(1), dataIn(2, strings.Repeat("09", 16)), good(2))
			// With the wrong sums nothing is right.
			if headers || data {
				r.headers[0], r.data[0] = false, false
				r.send(0, command(0, 1, writes, 16, write(0, 1), fill(9, 16)...), nop(1))
				r.wantThere(0, false)
			}
		}
	}
}

func TestWrongSums(t *testing.T) {
	c := usual()
	c.Login.Sums = true
	for _, at := range []int{0, 20, 47, 48, 51, 52, 67, 68, 71} {
		r := newRig(t, c).awake()
		r.logIn(0, "i", "HeaderDigest=CRC32C", "DataDigest=CRC32C")
		r.headers[0], r.data[0] = true, true
		p := r.bytesOf(0, command(0, 1, writes, 16, write(0, 1), fill(9, 16)...))
		if len(p) != 72 {
			t.Fatalf("the PDU has %d bytes", len(p))
		}
		p[at] ^= 0x10
		r.do(Event{Kind: Bytes, Data: p})
		r.wantThere(0, false)
		r.wantReady(0)
	}
}
