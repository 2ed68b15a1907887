package login

import (
	"bytes"
	"reflect"
	"slices"
	"testing"

	"pallet/api"
)

// pairs tells keys and values, one behind the other, as pairs.
func pairs(words ...string) []api.Pair {
	var l []api.Pair
	for at := 0; at < len(words); at += 2 {
		l = append(l, api.Pair{Key: words[at], Value: words[at+1]})
	}
	return l
}

// named tells the pairs that a first step needs, and others behind them.
func named(words ...string) []api.Pair {
	return append(pairs("InitiatorName", "i", "TargetName", "t"), pairs(words...)...)
}

func plain() Config {
	return Config{Targets: []string{"t"}}
}

func withUser() Config {
	return Config{Targets: []string{"t"}, Users: []User{{Name: "u", Secret: "s"}}}
}

// atFirst tells the Params of a login that has not begun.
func atFirst() Params {
	return Params{Segment: api.MaxData, Burst: 65536, First: 65536, Immediate: true, Ready: true}
}

func wantStep(t *testing.T, l *Login, r Request, wanted Answer) {
	t.Helper()
	got, e := l.Step(r)
	if e != api.OK || !sameAnswer(got, wanted) {
		t.Errorf("Step(%v) = %v, %d; want %v", r, got, e, wanted)
	}
}

func wantFail(t *testing.T, l *Login, r Request, detail byte) {
	t.Helper()
	wantStep(t, l, r, Answer{Class: 2, Detail: detail})
	wantEnd(t, l, false, true)
	wantError(t, l, r, api.ErrState)
}

func wantError(t *testing.T, l *Login, r Request, wanted api.Errno) {
	t.Helper()
	got, e := l.Step(r)
	if e != wanted || !sameAnswer(got, Answer{}) {
		t.Errorf("Step(%v) = %v, %d; want nothing, %d", r, got, e, wanted)
	}
}

func wantEnd(t *testing.T, l *Login, done, over bool) {
	t.Helper()
	if l.Done() != done || l.Over() != over {
		t.Errorf("done %v, over %v; want %v, %v", l.Done(), l.Over(), done, over)
	}
}

func wantParams(t *testing.T, l *Login, wanted Params) {
	t.Helper()
	if got := l.Params(); got != wanted {
		t.Errorf("Params() = %+v; want %+v", got, wanted)
	}
}

func TestExampleWithoutUsers(t *testing.T) {
	l := New(plain(), 1, nil)
	wantStep(t, l, Request{Stage: 1, Next: 3, Transit: true, Keys: named("HeaderDigest", "CRC32C,None")},
		Answer{Stage: 1, Next: 3, Transit: true, Keys: pairs("HeaderDigest", "None")})
	wantEnd(t, l, true, true)
}

func TestExampleWithAUser(t *testing.T) {
	l := New(withUser(), 7, []byte{0x0a, 0xff})
	wantStep(t, l, Request{Keys: named("AuthMethod", "CHAP")}, Answer{Keys: pairs("AuthMethod", "CHAP")})
	wantStep(t, l, Request{Keys: pairs("CHAP_A", "5")}, Answer{Keys: pairs("CHAP_A", "5", "CHAP_I", "7", "CHAP_C", "0x0aff")})
	wantEnd(t, l, false, false)
	wantStep(t, l, Request{Next: 3, Transit: true, Keys: pairs("CHAP_N", "u", "CHAP_R", rightAnswer(7, "s", []byte{0x0a, 0xff}))},
		Answer{Next: 3, Transit: true})
	wantEnd(t, l, true, true)
	wantFail(t, New(withUser(), 7, nil), Request{Stage: 1, Keys: named()}, 1)
}

// P20.1

func TestNewHasNotBegun(t *testing.T) {
	for _, c := range []Config{{}, plain(), withUser(), {Sums: true}} {
		l := New(c, 0, nil)
		wantEnd(t, l, false, false)
		wantParams(t, l, atFirst())
	}
}

// Empty lists are the same as none.
func TestEmptyLists(t *testing.T) {
	for _, users := range [][]User{nil, {}} {
		for _, keys := range [][]api.Pair{nil, {}} {
			l := New(Config{Targets: []string{"t"}, Users: users}, 1, []byte{})
			wantStep(t, l, Request{Stage: 1, Keys: named("AuthMethod", "None")}, Answer{Stage: 1, Keys: pairs("AuthMethod", "None")})
			wantStep(t, l, Request{Stage: 1, Next: 3, Transit: true, Keys: keys}, Answer{Stage: 1, Next: 3, Transit: true})
			wantEnd(t, l, true, true)
		}
	}
	wantFail(t, New(Config{Targets: []string{}}, 1, nil), Request{Keys: named()}, 3)
}

func TestConstants(t *testing.T) {
	if Security != 0 || Operational != 1 || Full != 3 {
		t.Errorf("the stages are %d, %d, %d", Security, Operational, Full)
	}
}

func TestFirstStageAboveOperational(t *testing.T) {
	for _, c := range []Config{plain(), withUser()} {
		for stage := 2; stage < 256; stage++ {
			l := New(c, 1, nil)
			wantFail(t, l, Request{Stage: byte(stage), Keys: named("MaxBurstLength", "1024")}, 0)
			wantParams(t, l, atFirst())
		}
	}
	// Ahead of all that else is wrong.
	wantFail(t, New(plain(), 1, nil), Request{Stage: 2}, 0)
	wantFail(t, New(plain(), 1, nil), Request{Stage: 3, Keys: pairs("SessionType", "x")}, 0)
}

func TestInitiatorName(t *testing.T) {
	for _, keys := range [][]api.Pair{nil, {}, pairs("TargetName", "t"), pairs("InitiatorName", "", "TargetName", "t"),
		pairs("initiatorname", "i", "TargetName", "t"), pairs("InitiatorName ", "i", "TargetName", "t"), pairs("InitiatorAlias", "i", "TargetName", "t"),
		pairs("InitiatorName", "", "InitiatorName", "i", "TargetName", "t"), pairs("SessionType", "Normal")} {
		for stage := range byte(2) {
			l := New(plain(), 1, nil)
			wantFail(t, l, Request{Stage: stage, Keys: keys}, 7)
			wantParams(t, l, atFirst())
		}
	}
	// What of the SessionType is Discovery is told ahead of the name.
	l := New(plain(), 1, nil)
	wantFail(t, l, Request{Keys: pairs("SessionType", "Discovery")}, 7)
	wanted := atFirst()
	wanted.Discovery = true
	wantParams(t, l, wanted)
	// And the name goes ahead of a wrong SessionType, of a wrong target and of a wrong step.
	wantFail(t, New(plain(), 1, nil), Request{Keys: pairs("SessionType", "x")}, 7)
	wantFail(t, New(plain(), 1, nil), Request{Keys: pairs("TargetName", "x"), Transit: true}, 7)
}

func TestSessionType(t *testing.T) {
	for _, value := range []string{"", "x", "normal", "discovery", "NORMAL", "Normal ", "Normal,Discovery", "Discovery,Normal", "Reject", "None"} {
		l := New(plain(), 1, nil)
		wantFail(t, l, Request{Transit: true, Keys: pairs("InitiatorName", "i", "SessionType", value)}, 9)
		wanted := atFirst()
		wanted.Initiator = "i"
		wantParams(t, l, wanted)
		wantFail(t, New(plain(), 1, nil), Request{Keys: named("SessionType", value)}, 9)
	}
	for _, keys := range [][]api.Pair{named(), named("SessionType", "Normal"), append(pairs("SessionType", "Normal"), named()...)} {
		l := New(plain(), 1, nil)
		wantStep(t, l, Request{Keys: keys}, Answer{})
		wanted := atFirst()
		wanted.Initiator, wanted.Target = "i", "t"
		wantParams(t, l, wanted)
		wantEnd(t, l, false, false)
	}
}

func TestDiscoveryHasNoTarget(t *testing.T) {
	wanted := atFirst()
	wanted.Initiator, wanted.Discovery = "i", true
	for _, more := range [][]api.Pair{nil, pairs("TargetName", "t"), pairs("TargetName", "x"), pairs("TargetName", "")} {
		for _, c := range []Config{plain(), {}} {
			l := New(c, 1, nil)
			wantStep(t, l, Request{Stage: 1, Next: 3, Transit: true, Keys: append(pairs("InitiatorName", "i", "SessionType", "Discovery"), more...)},
				Answer{Stage: 1, Next: 3, Transit: true})
			wantParams(t, l, wanted)
			wantEnd(t, l, true, true)
		}
	}
	// It needs the secret as any other does.
	wantFail(t, New(withUser(), 1, nil), Request{Stage: 1, Keys: pairs("InitiatorName", "i", "SessionType", "Discovery")}, 1)
}

func TestTargetName(t *testing.T) {
	for _, keys := range [][]api.Pair{pairs(), pairs("TargetName", ""), pairs("SessionType", "Normal"), pairs("targetname", "t"), pairs("TargetAlias", "t"),
		pairs("TargetName", "", "TargetName", "t")} {
		for _, c := range []Config{plain(), {}, {Targets: []string{""}}} {
			l := New(c, 1, nil)
			wantFail(t, l, Request{Keys: append(pairs("InitiatorName", "i"), keys...)}, 7)
			wanted := atFirst()
			wanted.Initiator = "i"
			wantParams(t, l, wanted)
		}
	}
	for _, name := range []string{"x", "T", "t ", "tt", "t,s", "s,t", "*"} {
		for _, c := range []Config{{}, {Targets: []string{""}}, plain(), {Targets: []string{"s", "t"}}} {
			l := New(c, 1, nil)
			wantFail(t, l, Request{Transit: true, Keys: pairs("InitiatorName", "i", "TargetName", name)}, 3)
			wanted := atFirst()
			wanted.Initiator, wanted.Target = "i", name
			wantParams(t, l, wanted)
		}
	}
	for _, name := range []string{"r", "s", "t"} {
		l := New(Config{Targets: []string{"r", "s", "t"}}, 1, nil)
		wantStep(t, l, Request{Keys: pairs("TargetName", name, "InitiatorName", "host")}, Answer{})
		wanted := atFirst()
		wanted.Initiator, wanted.Target = "host", name
		wantParams(t, l, wanted)
	}
}

// Of a key that comes twice the first one counts.
func TestNamesTwice(t *testing.T) {
	l := New(plain(), 1, nil)
	wantStep(t, l, Request{Keys: named("InitiatorName", "j", "TargetName", "x", "SessionType", "Normal", "SessionType", "Discovery")}, Answer{})
	wanted := atFirst()
	wanted.Initiator, wanted.Target = "i", "t"
	wantParams(t, l, wanted)
	wantFail(t, New(plain(), 1, nil), Request{Keys: append(pairs("TargetName", "x"), named()...)}, 3)
}

// Names are looked at in the first step alone.
func TestNamesLater(t *testing.T) {
	l := New(plain(), 1, nil)
	wantStep(t, l, Request{Keys: named()}, Answer{})
	ahead := l.Params()
	for _, keys := range [][]api.Pair{nil, pairs("InitiatorName", "", "TargetName", "x", "SessionType", "x"), pairs("InitiatorName", "j", "SessionType", "Discovery")} {
		wantStep(t, l, Request{Keys: keys}, Answer{})
		wantParams(t, l, ahead)
	}
}

func TestStageThatIsNotTheLogins(t *testing.T) {
	for stage := range 256 {
		l := New(plain(), 1, nil)
		l.Step(Request{Keys: named()})
		if stage != 0 {
			wantFail(t, l, Request{Stage: byte(stage), Keys: pairs("MaxBurstLength", "1024")}, 0)
		}
		l = New(plain(), 1, nil)
		l.Step(Request{Stage: 1, Keys: named()})
		if stage != 1 {
			wantFail(t, l, Request{Stage: byte(stage), Keys: pairs("MaxBurstLength", "1024")}, 0)
		}
		if l.Params().Burst != 65536 {
			t.Errorf("a step from the stage %d has changed Params", stage)
		}
	}
	// It goes ahead of the proof that lacks.
	l := New(withUser(), 1, nil)
	wantStep(t, l, Request{Keys: named()}, Answer{})
	wantFail(t, l, Request{Stage: 1}, 0)
	// A stage that was wanted, but not come to, isn't the login's either.
	l = New(withUser(), 1, nil)
	wantStep(t, l, Request{Next: 1, Transit: true, Keys: named()}, Answer{})
	wantFail(t, l, Request{Stage: 1}, 0)
}

func TestTransit(t *testing.T) {
	for stage := range byte(2) {
		for next := range 256 {
			r := Request{Stage: stage, Next: byte(next), Transit: true, Keys: named("MaxBurstLength", "1024")}
			l := New(plain(), 1, nil)
			if !slices.Contains([]byte{1, 3}[stage:], byte(next)) {
				wantFail(t, l, r, 0)
				if l.Params().Burst != 65536 || l.Params().Initiator != "i" {
					t.Errorf("a step from %d to %d has left %v", stage, next, l.Params())
				}
				continue
			}
			wantStep(t, l, r, Answer{Stage: stage, Next: byte(next), Transit: true, Keys: pairs("MaxBurstLength", "1024")})
			wantEnd(t, l, next == 3, next == 3)
		}
	}
}

// Without Transit Next says nothing, and isn't told.
func TestNextWithoutTransit(t *testing.T) {
	for stage := range byte(2) {
		for next := range 256 {
			l := New(plain(), 1, nil)
			wantStep(t, l, Request{Stage: stage, Next: byte(next), Keys: named()}, Answer{Stage: stage})
			wantEnd(t, l, false, false)
			wantStep(t, l, Request{Stage: stage, Next: 3, Transit: true}, Answer{Stage: stage, Next: 3, Transit: true})
			wantEnd(t, l, true, true)
		}
	}
}

func TestAllStages(t *testing.T) {
	l := New(plain(), 1, nil)
	wantStep(t, l, Request{Keys: named("AuthMethod", "None")}, Answer{Keys: pairs("AuthMethod", "None")})
	wantStep(t, l, Request{Next: 1, Transit: true}, Answer{Next: 1, Transit: true})
	wantEnd(t, l, false, false)
	for range 3 {
		wantStep(t, l, Request{Stage: 1}, Answer{Stage: 1})
	}
	wantStep(t, l, Request{Stage: 1, Next: 3, Transit: true}, Answer{Stage: 1, Next: 3, Transit: true})
	wantEnd(t, l, true, true)
	for stage := range byte(4) {
		wantError(t, l, Request{Stage: stage, Keys: named()}, api.ErrState)
	}
	wantEnd(t, l, true, true)
}

// Whoever isn't proved stays in the stage, and can't get round it.
func TestWithoutProof(t *testing.T) {
	wantFail(t, New(withUser(), 1, nil), Request{Stage: 1, Next: 3, Transit: true, Keys: named("MaxBurstLength", "1024")}, 1)
	for next := range byte(2) {
		l := New(withUser(), 1, nil)
		for range 3 {
			wantStep(t, l, Request{Next: 1 + 2*next, Transit: true, Keys: named("MaxBurstLength", "1024")}, Answer{Keys: pairs("MaxBurstLength", "1024")})
			wantEnd(t, l, false, false)
		}
		wantFail(t, l, Request{Stage: 1, Next: 3, Transit: true}, 0)
	}
	// A wrong way goes ahead of the proof.
	wantFail(t, New(withUser(), 1, nil), Request{Stage: 1, Next: 1, Transit: true, Keys: named()}, 0)
	l := New(withUser(), 1, nil)
	wantFail(t, l, Request{Stage: 1, Keys: named("MaxBurstLength", "1024")}, 1)
	wanted := atFirst()
	wanted.Initiator, wanted.Target = "i", "t"
	wantParams(t, l, wanted)
}

func TestOperationalBehindTheProof(t *testing.T) {
	l := New(withUser(), 7, []byte{1})
	wantStep(t, l, Request{Keys: named("AuthMethod", "CHAP", "CHAP_A", "5")},
		Answer{Keys: pairs("AuthMethod", "CHAP", "CHAP_A", "5", "CHAP_I", "7", "CHAP_C", "0x01")})
	wantStep(t, l, Request{Next: 1, Transit: true, Keys: pairs("CHAP_N", "u", "CHAP_R", rightAnswer(7, "s", []byte{1}))}, Answer{Next: 1, Transit: true})
	wantStep(t, l, Request{Stage: 1, Keys: pairs("MaxBurstLength", "1024")}, Answer{Stage: 1, Keys: pairs("MaxBurstLength", "1024")})
	wantStep(t, l, Request{Stage: 1, Next: 3, Transit: true}, Answer{Stage: 1, Next: 3, Transit: true})
	wantEnd(t, l, true, true)
}

func TestAStepBehindTheEnd(t *testing.T) {
	l := New(plain(), 1, nil)
	wantStep(t, l, Request{Next: 3, Transit: true, Keys: named("MaxBurstLength", "1024")}, Answer{Next: 3, Transit: true, Keys: pairs("MaxBurstLength", "1024")})
	ahead := l.Params()
	for _, r := range []Request{{}, {Stage: 3}, {Keys: named("MaxBurstLength", "2048")}, {Next: 3, Transit: true}, {Stage: 9}} {
		wantError(t, l, r, api.ErrState)
		wantEnd(t, l, true, true)
		wantParams(t, l, ahead)
	}
	l = New(plain(), 1, nil)
	wantFail(t, l, Request{}, 7)
	wantError(t, l, Request{Keys: named()}, api.ErrState)
	wantEnd(t, l, false, true)
	wantParams(t, l, atFirst())
}

func TestNilLogin(t *testing.T) {
	var l *Login
	for _, r := range []Request{{}, {Stage: 9}, {Stage: 1, Next: 3, Transit: true, Keys: named()}} {
		wantError(t, l, r, api.ErrNone)
		wantEnd(t, l, false, false)
		wantParams(t, l, Params{})
	}
}

// Of a zero value nothing is promised, but that nothing panics.
func TestZeroLogin(t *testing.T) {
	for stage := range byte(4) {
		var l Login
		for range 3 {
			l.Step(Request{Stage: stage, Next: 3, Transit: true, Keys: named("CHAP_A", "5", "CHAP_N", "u", "AuthMethod", "None")})
			l.Step(Request{Stage: stage, Keys: named("AuthMethod", "None", "MaxBurstLength", "1024")})
			l.Done()
			l.Over()
			l.Params()
		}
	}
}

// P20.2 is in each test above, and here where Params are as a step left them that failed.
func TestParamsOfAStepThatFails(t *testing.T) {
	l := New(Config{Targets: []string{"t"}, Sums: true}, 1, nil)
	wantFail(t, l, Request{Stage: 1, Next: 3, Transit: true, Keys: named("HeaderDigest", "CRC32C", "MaxBurstLength", "1024", "MaxRecvDataSegmentLength", "600",
		"InitialR2T", "No", "CHAP_N", "u", "FirstBurstLength", "1024", "DataDigest", "CRC32C", "ImmediateData", "No")}, 1)
	wantParams(t, l, Params{Initiator: "i", Target: "t", Headers: true, Segment: 600, Burst: 1024, First: 65536, Immediate: true})
}

func TestWhatIsHandedInIsNotKept(t *testing.T) {
	targets := append(make([]string, 0, 8), "s", "t")
	users := append(make([]User, 0, 8), User{"v", "x"}, User{"u", "s"})
	challenge := append(make([]byte, 0, 8), 1, 2, 3)
	l := New(Config{Targets: targets, Users: users, Sums: true}, 7, challenge)
	targets[1], users[1], challenge[1] = "x", User{"x", "x"}, 9
	_, _, _ = append(targets, "y"), append(users, User{}), append(challenge, 4)
	keys := named("AuthMethod", "CHAP", "CHAP_A", "5")
	got, _ := l.Step(Request{Keys: keys})
	for i := range keys {
		keys[i] = api.Pair{Key: "x", Value: "y"}
	}
	wanted := pairs("AuthMethod", "CHAP", "CHAP_A", "5", "CHAP_I", "7", "CHAP_C", "0x010203")
	if !reflect.DeepEqual(got.Keys, wanted) {
		t.Errorf("the keys are %v; want %v", got.Keys, wanted)
	}
	if p := l.Params(); p.Initiator != "i" || p.Target != "t" {
		t.Errorf("Params() = %v", p)
	}
	wantStep(t, l, Request{Next: 3, Transit: true, Keys: pairs("CHAP_N", "u", "CHAP_R", rightAnswer(7, "s", []byte{1, 2, 3}))}, Answer{Next: 3, Transit: true})
}

func TestWhatIsHandedInIsNotChanged(t *testing.T) {
	room := append(named("AuthMethod", "CHAP", "CHAP_A", "5", "MaxBurstLength", "1024", "x", "y"), pairs("spare", "room")...)
	ahead := slices.Clone(room)
	targets, users, challenge := []string{"t", "spare"}, []User{{"u", "s"}, {"spare", "room"}}, []byte{1, 2, 99}
	l := New(Config{Targets: targets[:1], Users: users[:1]}, 7, challenge[:2])
	l.Step(Request{Keys: room[:len(room)-1]})
	l.Step(Request{Next: 3, Transit: true, Keys: pairs("CHAP_N", "u", "CHAP_R", rightAnswer(7, "s", []byte{1, 2}))})
	wantEnd(t, l, true, true)
	if !slices.Equal(room, ahead) || !slices.Equal(targets, []string{"t", "spare"}) || !slices.Equal(users, []User{{"u", "s"}, {"spare", "room"}}) ||
		!bytes.Equal(challenge, []byte{1, 2, 99}) {
		t.Errorf("changed: %v, %v, %v, %v", room, targets, users, challenge)
	}
	// Spare room isn't looked at, either.
	wantFail(t, New(Config{Targets: targets[:1]}, 7, nil), Request{Keys: pairs("InitiatorName", "i", "TargetName", "spare")}, 3)
}

// An answer written over, spare room too, is nothing to a later one.
func TestAnswersAreNewMemory(t *testing.T) {
	l := New(withUser(), 7, []byte{1})
	l.Step(Request{Keys: named("AuthMethod", "CHAP")})
	keys := pairs("CHAP_A", "5", "MaxBurstLength", "1024", "HeaderDigest", "None", "x", "y")
	var kept []api.Pair
	wanted := pairs("CHAP_A", "5", "CHAP_I", "7", "CHAP_C", "0x01", "MaxBurstLength", "1024", "HeaderDigest", "None", "x", "NotUnderstood")
	for range 3 {
		got, _ := l.Step(Request{Keys: keys})
		if kept == nil {
			kept = got.Keys
		} else {
			spoilt := got.Keys[:cap(got.Keys)]
			for i := range spoilt {
				spoilt[i] = api.Pair{Key: "spoilt"}
			}
		}
		if !slices.Equal(kept, wanted) || !slices.Equal(keys, pairs("CHAP_A", "5", "MaxBurstLength", "1024", "HeaderDigest", "None", "x", "y")) {
			t.Errorf("the answer is %v, the keys are %v", kept, keys)
		}
	}
	wantStep(t, l, Request{Keys: keys}, Answer{Keys: wanted})
}

// Logins of one Config go their own ways.
func TestTwoLogins(t *testing.T) {
	c := withUser()
	one, two := New(c, 1, []byte{1}), New(c, 2, []byte{2})
	for _, l := range []*Login{one, two} {
		l.Step(Request{Keys: named("AuthMethod", "CHAP", "CHAP_A", "5")})
	}
	wantStep(t, one, Request{Keys: pairs("CHAP_N", "u", "CHAP_R", rightAnswer(1, "s", []byte{1}), "MaxBurstLength", "1024")}, Answer{Keys: pairs("MaxBurstLength", "1024")})
	wantStep(t, two, Request{Next: 3, Transit: true}, Answer{})
	if two.Params().Burst != 65536 {
		t.Errorf("the other one's Params: %v", two.Params())
	}
	wantFail(t, two, Request{Keys: pairs("CHAP_N", "u", "CHAP_R", rightAnswer(1, "s", []byte{1}))}, 1)
	wantStep(t, one, Request{Next: 3, Transit: true}, Answer{Next: 3, Transit: true})
}
