package login

import (
	"fmt"
	"slices"
	"strings"
	"testing"

	"pallet/api"
)

// P20.1: how each key is answered.

// begun tells a login in the stage Operational, without users.
func begun(t *testing.T, sums bool) *Login {
	t.Helper()
	l := New(Config{Targets: []string{"t"}, Sums: sums}, 1, nil)
	wantStep(t, l, Request{Stage: 1, Keys: named()}, Answer{Stage: 1})
	return l
}

// wantKey holds what a key is answered (empty: nothing is) and what it leaves, in a login that begins with such Params.
func wantKey(t *testing.T, l *Login, key, offer, answer string, wanted Params) {
	t.Helper()
	a := Answer{Stage: 1}
	if answer != "" {
		a.Keys = pairs(key, answer)
	}
	wantStep(t, l, Request{Stage: 1, Keys: pairs(key, offer)}, a)
	if t.Failed() {
		return
	}
	wantParams(t, l, wanted)
}

func TestSilentKeys(t *testing.T) {
	l := begun(t, true)
	for _, key := range []string{"InitiatorName", "InitiatorAlias", "SessionType", "TargetName", "CHAP_R"} {
		for _, offer := range []string{"", "x", "Discovery", "0x00", "t"} {
			wantKey(t, l, key, offer, "", l.Params())
		}
	}
}

func TestOtherKeys(t *testing.T) {
	l := begun(t, true)
	for _, key := range []string{"", "x", "X-com.example", "TargetAlias", "SendTargets", "TargetPortalGroupTag", "OFMarker", "IFMarker", "DefaultTime2Wait",
		"DefaultTime2Retain", "CHAP_I", "CHAP_C", "headerdigest", "HeaderDigest ", "Maxburstlength", "CHAP_a", "authmethod", "InitiatorName=", "HeaderDigestDataDigest"} {
		for _, offer := range []string{"", "Yes", "5", "None"} {
			wantKey(t, l, key, offer, "NotUnderstood", l.Params())
		}
	}
}

func TestDigests(t *testing.T) {
	offers := []struct{ offer, withSums, without string }{
		{"CRC32C", "CRC32C", "Reject"},
		{"None", "None", "None"},
		{"CRC32C,None", "CRC32C", "None"},
		{"None,CRC32C", "None", "None"},
		{"x,CRC32C,None", "CRC32C", "None"},
		{"x,None", "None", "None"},
		{"", "Reject", "Reject"},
		{",", "Reject", "Reject"},
		{"x", "Reject", "Reject"},
		{"crc32c", "Reject", "Reject"},
		{"none", "Reject", "Reject"},
		{"CRC32C ", "Reject", "Reject"},
		{" None,CRC32", "Reject", "Reject"},
		{"Reject", "Reject", "Reject"},
	}
	for _, sums := range []bool{true, false} {
		for _, ahead := range []string{"CRC32C,None", "None"} {
			for _, x := range offers {
				answer := x.without
				if sums {
					answer = x.withSums
				}
				l := begun(t, sums)
				l.Step(Request{Stage: 1, Keys: pairs("HeaderDigest", ahead, "DataDigest", ahead)})
				p := l.Params()
				p.Headers = answer == "CRC32C"
				wantKey(t, l, "HeaderDigest", x.offer, answer, p)
				p.Data = answer == "CRC32C"
				wantKey(t, l, "DataDigest", x.offer, answer, p)
			}
		}
	}
}

func TestDigestsAreTwo(t *testing.T) {
	l := begun(t, true)
	p := l.Params()
	if p.Headers || p.Data {
		t.Errorf("sums that nobody wanted: %v", p)
	}
	p.Data = true
	wantKey(t, l, "DataDigest", "CRC32C", "CRC32C", p)
	p.Headers, p.Data = true, false
	wantStep(t, l, Request{Stage: 1, Keys: pairs("HeaderDigest", "CRC32C", "DataDigest", "None")}, Answer{Stage: 1, Keys: pairs("HeaderDigest", "CRC32C", "DataDigest", "None")})
	wantParams(t, l, p)
}

// lengths are offers of lengths; 0: it is rejected.
func lengths() map[string]int {
	return map[string]int{
		"512": 512, "513": 513, "1024": 1024, "8191": 8191, "8192": 8192, "8193": 8193, "65535": 65535, "65536": 65536, "65537": 65537,
		"262144": 262144, "16777214": 1<<24 - 2, "16777215": 1<<24 - 1,
		"0x200": 512, "0x00000200": 512, "0x2000": 8192, "0xFFFF": 65535, "0xfFfFfF": 1<<24 - 1,
		"511": 0, "0": 0, "1": 0, "16777216": 0, "16777217": 0, "0x1ff": 0, "0x1000000": 0, "0x": 0, "": 0, "x": 0, "01024": 0, "0512": 0, "+1024": 0, "-1024": 0,
		"1024 ": 0, " 1024": 0, "1_024": 0, "1024.0": 0, "1e4": 0, "Yes": 0, "1024,2048": 0, "0X200": 0, "18446744073709551615": 0, "18446744073709551616": 0,
		"18446744073709552640": 0, "4294968320": 0, "0x10000000000000400": 0, "Reject": 0,
	}
}

func TestSegment(t *testing.T) {
	for _, ahead := range []string{"8192", "600"} {
		for offer, v := range lengths() {
			l := begun(t, false)
			wantStep(t, l, Request{Stage: 1, Keys: pairs("MaxRecvDataSegmentLength", ahead)}, Answer{Stage: 1})
			p := l.Params()
			if v == 0 {
				wantKey(t, l, "MaxRecvDataSegmentLength", offer, "Reject", p)
				continue
			}
			p.Segment = min(v, 8192)
			wantKey(t, l, "MaxRecvDataSegmentLength", offer, "", p)
		}
	}
}

func TestBursts(t *testing.T) {
	for _, ahead := range []string{"65536", "600"} {
		for offer, v := range lengths() {
			l := begun(t, false)
			l.Step(Request{Stage: 1, Keys: pairs("MaxBurstLength", ahead, "FirstBurstLength", ahead)})
			p := l.Params()
			answer := "Reject"
			if v != 0 {
				p.Burst = min(v, 65536)
				answer = fmt.Sprint(p.Burst)
			}
			wantKey(t, l, "MaxBurstLength", offer, answer, p)
			if v != 0 {
				p.First = min(v, 65536)
			}
			wantKey(t, l, "FirstBurstLength", offer, answer, p)
		}
	}
}

// A first burst may be longer than a burst: neither is held against the other.
func TestBurstsAreTwo(t *testing.T) {
	l := begun(t, false)
	p := l.Params()
	p.Burst = 512
	wantKey(t, l, "MaxBurstLength", "512", "512", p)
	p.First = 1024
	wantKey(t, l, "FirstBurstLength", "1024", "1024", p)
	p.Burst = 65536
	wantKey(t, l, "MaxBurstLength", "262144", "65536", p)
}

func TestReadyAndImmediate(t *testing.T) {
	for _, ahead := range []string{"Yes", "No"} {
		l := begun(t, false)
		wantStep(t, l, Request{Stage: 1, Keys: pairs("InitialR2T", ahead, "ImmediateData", ahead)}, Answer{Stage: 1, Keys: pairs("InitialR2T", ahead, "ImmediateData", ahead)})
		p := l.Params()
		if p.Ready != (ahead == "Yes") || p.Immediate != (ahead == "Yes") {
			t.Errorf("behind %s: %v", ahead, p)
		}
		for _, offer := range []string{"", "yes", "no", "YES", "Yes ", "Yes,No", "1", "0", "true", "Reject", "None"} {
			wantKey(t, l, "InitialR2T", offer, "Reject", p)
			wantKey(t, l, "ImmediateData", offer, "Reject", p)
		}
		p.Ready = !p.Ready
		other := map[string]string{"Yes": "No", "No": "Yes"}[ahead]
		wantKey(t, l, "InitialR2T", other, other, p)
		p.Immediate = !p.Immediate
		wantKey(t, l, "ImmediateData", other, other, p)
	}
}

func TestKeysThatLeaveNothing(t *testing.T) {
	l := begun(t, false)
	for offer, answer := range map[string]string{"1": "1", "2": "1", "65534": "1", "65535": "1", "0x1": "1", "0xffff": "1",
		"0": "Reject", "65536": "Reject", "0x10000": "Reject", "01": "Reject", "": "Reject", "-1": "Reject", "Yes": "Reject", "18446744073709551617": "Reject"} {
		wantKey(t, l, "MaxOutstandingR2T", offer, answer, l.Params())
		wantKey(t, l, "MaxConnections", offer, answer, l.Params())
	}
	for offer, answer := range map[string]string{"0": "0", "1": "0", "2": "0", "0x0": "0", "0x02": "0",
		"3": "Reject", "00": "Reject", "": "Reject", "-0": "Reject", "No": "Reject", "18446744073709551616": "Reject"} {
		wantKey(t, l, "ErrorRecoveryLevel", offer, answer, l.Params())
	}
	for offer, answer := range map[string]string{"Yes": "Yes", "No": "Yes", "": "Reject", "yes": "Reject", "Yes,No": "Reject", "1": "Reject"} {
		wantKey(t, l, "DataPDUInOrder", offer, answer, l.Params())
		wantKey(t, l, "DataSequenceInOrder", offer, answer, l.Params())
	}
}

// A whole negotiation, in its order and turned round.
func TestKeysInAnyOrder(t *testing.T) {
	keys := pairs("HeaderDigest", "None,CRC32C", "DataDigest", "CRC32C", "MaxRecvDataSegmentLength", "4096", "MaxBurstLength", "262144", "FirstBurstLength", "0x400",
		"InitialR2T", "No", "ImmediateData", "No", "MaxOutstandingR2T", "8", "MaxConnections", "4", "ErrorRecoveryLevel", "2", "DataPDUInOrder", "No",
		"DataSequenceInOrder", "Yes", "TargetAlias", "x", "InitiatorAlias", "a", "CHAP_R", "0x00", "AuthMethod", "CHAP,None")
	answers := pairs("HeaderDigest", "None", "DataDigest", "CRC32C", "MaxBurstLength", "65536", "FirstBurstLength", "1024",
		"InitialR2T", "No", "ImmediateData", "No", "MaxOutstandingR2T", "1", "MaxConnections", "1", "ErrorRecoveryLevel", "0", "DataPDUInOrder", "Yes",
		"DataSequenceInOrder", "Yes", "TargetAlias", "NotUnderstood", "AuthMethod", "None")
	wanted := Params{Initiator: "i", Target: "t", Data: true, Segment: 4096, Burst: 65536, First: 1024}
	for range 2 {
		l := begun(t, true)
		wantStep(t, l, Request{Stage: 1, Keys: keys}, Answer{Stage: 1, Keys: answers})
		wantParams(t, l, wanted)
		slices.Reverse(keys)
		slices.Reverse(answers)
	}
	// Keys come in the first step, too, ahead of the names.
	l := New(Config{Targets: []string{"t"}, Sums: true}, 1, nil)
	wantStep(t, l, Request{Keys: append(keys, named()...)}, Answer{Keys: answers})
	wantParams(t, l, wanted)
}

// Each of two is answered, and the last one holds.
func TestKeysTwice(t *testing.T) {
	l := begun(t, true)
	wantStep(t, l, Request{Stage: 1, Keys: pairs("MaxBurstLength", "1024", "HeaderDigest", "CRC32C", "MaxBurstLength", "2048", "MaxBurstLength", "1", "HeaderDigest", "x",
		"InitialR2T", "No", "InitialR2T", "Yes", "y", "1", "y", "2")},
		Answer{Stage: 1, Keys: pairs("MaxBurstLength", "1024", "HeaderDigest", "CRC32C", "MaxBurstLength", "2048", "MaxBurstLength", "Reject", "HeaderDigest", "Reject",
			"InitialR2T", "No", "InitialR2T", "Yes", "y", "NotUnderstood", "y", "NotUnderstood")})
	p := atFirst()
	p.Initiator, p.Target, p.Burst = "i", "t", 2048
	wantParams(t, l, p)
}

// More keys than a text can have.
func TestManyKeys(t *testing.T) {
	l := begun(t, false)
	var keys, answers []api.Pair
	for n := range 3000 {
		key := fmt.Sprint("x", n)
		keys = append(keys, api.Pair{Key: key, Value: strings.Repeat("v", n)})
		answers = append(answers, api.Pair{Key: key, Value: "NotUnderstood"})
	}
	wantStep(t, l, Request{Stage: 1, Keys: keys}, Answer{Stage: 1, Keys: answers})
}

func TestAuthMethod(t *testing.T) {
	for offer, own := range map[string]string{"CHAP": "c", "None": "n", "CHAP,None": "cn", "None,CHAP": "cn", "KRB5,SRP,CHAP": "c", "KRB5,None": "n",
		"": "", ",": "", "x": "", "chap": "", "none": "", "CHAP ": "", " None": "", "CHAPNone": "", "Reject": "", "KRB5,SRP": ""} {
		r := Request{Next: 3, Transit: true, Keys: named("MaxBurstLength", "1024", "AuthMethod", offer)}
		l := New(plain(), 1, nil)
		if strings.Contains(own, "n") {
			wantStep(t, l, r, Answer{Next: 3, Transit: true, Keys: pairs("MaxBurstLength", "1024", "AuthMethod", "None")})
			wantEnd(t, l, true, true)
		} else {
			wantFail(t, l, r, 1)
		}
		l = New(withUser(), 1, nil)
		if strings.Contains(own, "c") {
			wantStep(t, l, r, Answer{Keys: pairs("MaxBurstLength", "1024", "AuthMethod", "CHAP")})
			wantEnd(t, l, false, false)
		} else {
			wantFail(t, l, r, 1)
		}
	}
	// It is asked again whenever it comes, in each stage.
	l := begun(t, false)
	wantKey(t, l, "AuthMethod", "None", "None", l.Params())
	wantFail(t, l, Request{Stage: 1, Keys: pairs("AuthMethod", "CHAP")}, 1)
	l = New(withUser(), 1, nil)
	wantStep(t, l, Request{Keys: named("AuthMethod", "CHAP")}, Answer{Keys: pairs("AuthMethod", "CHAP")})
	wantFail(t, l, Request{Keys: pairs("AuthMethod", "None")}, 1)
}

func TestChallenge(t *testing.T) {
	for _, x := range []struct {
		id        byte
		challenge []byte
		i, c      string
	}{
		{0, nil, "0", "0x"},
		{7, []byte{}, "7", "0x"},
		{10, []byte{0}, "10", "0x00"},
		{255, []byte{0xab, 0xcd, 0x0e}, "255", "0xabcd0e"},
	} {
		for _, offer := range []string{"5", "5,7", "7,5", "6,7,5,8", "5,5"} {
			l := New(withUser(), x.id, x.challenge)
			wantStep(t, l, Request{Keys: named("AuthMethod", "CHAP,None")}, Answer{Keys: pairs("AuthMethod", "CHAP")})
			told := Answer{Keys: pairs("CHAP_A", "5", "CHAP_I", x.i, "CHAP_C", x.c)}
			wantStep(t, l, Request{Keys: pairs("CHAP_A", offer)}, told)
			wantStep(t, l, Request{Next: 3, Transit: true, Keys: pairs("CHAP_A", offer)}, told)
			wantEnd(t, l, false, false)
		}
	}
}

func TestChallengeWithAnotherSum(t *testing.T) {
	for _, offer := range []string{"", "7", "6,7", "05", "5 ", " 5", "0x5", "55", "MD5", ",", "Reject", "5.0"} {
		l := New(withUser(), 1, nil)
		l.Step(Request{Keys: named("AuthMethod", "CHAP")})
		wantFail(t, l, Request{Keys: pairs("MaxBurstLength", "1024", "CHAP_A", offer)}, 1)
	}
}

func TestChallengeWithoutAMethod(t *testing.T) {
	wantFail(t, New(withUser(), 1, nil), Request{Keys: named("CHAP_A", "5")}, 1)
	wantFail(t, New(withUser(), 1, nil), Request{Keys: named("CHAP_A", "5", "AuthMethod", "CHAP")}, 1)
	wantFail(t, New(plain(), 1, nil), Request{Keys: named("CHAP_A", "5")}, 1)
	wantFail(t, New(plain(), 1, nil), Request{Keys: named("AuthMethod", "None", "CHAP_A", "5")}, 1)
	l := New(withUser(), 1, nil)
	wantStep(t, l, Request{Keys: named()}, Answer{})
	wantFail(t, l, Request{Keys: pairs("CHAP_A", "5")}, 1)
}

// asked tells a login of some users whose challenge, 01 02, was told.
func asked(t *testing.T, users ...User) *Login {
	t.Helper()
	l := New(Config{Targets: []string{"t"}, Users: users}, 7, []byte{1, 2})
	wantStep(t, l, Request{Keys: named("AuthMethod", "CHAP", "CHAP_A", "5")},
		Answer{Keys: pairs("AuthMethod", "CHAP", "CHAP_A", "5", "CHAP_I", "7", "CHAP_C", "0x0102")})
	return l
}

func answerOf(secret string) string {
	return rightAnswer(7, secret, []byte{1, 2})
}

func TestRightAnswers(t *testing.T) {
	for _, x := range []struct{ name, secret string }{{"a", "one"}, {"b", "two"}, {"a", "three"}, {"", "four"}, {"c", ""}} {
		for _, response := range []string{answerOf(x.secret), "0X" + strings.ToUpper(answerOf(x.secret)[2:])} {
			for _, keys := range [][]api.Pair{pairs("CHAP_N", x.name, "CHAP_R", response), pairs("CHAP_R", response, "CHAP_N", x.name),
				pairs("CHAP_R", response, "CHAP_N", x.name, "CHAP_R", "0x00")} {
				l := asked(t, User{"a", "one"}, User{"b", "two"}, User{"a", "three"}, User{"", "four"}, User{"c", ""})
				wantStep(t, l, Request{Keys: keys}, Answer{})
				wantEnd(t, l, false, false)
				wantStep(t, l, Request{Next: 3, Transit: true}, Answer{Next: 3, Transit: true})
				wantEnd(t, l, true, true)
			}
		}
	}
}

func TestWrongAnswers(t *testing.T) {
	for _, keys := range [][]api.Pair{
		pairs("CHAP_N", "a"), pairs("CHAP_N", "a", "CHAP_R", ""), pairs("CHAP_N", "a", "CHAP_R", "0x"),
		pairs("CHAP_N", "a", "CHAP_R", answerOf("two")), pairs("CHAP_N", "b", "CHAP_R", answerOf("one")),
		pairs("CHAP_N", "c", "CHAP_R", answerOf("one")), pairs("CHAP_N", "", "CHAP_R", answerOf("one")), pairs("CHAP_N", "A", "CHAP_R", answerOf("one")),
		pairs("CHAP_N", "a,b", "CHAP_R", answerOf("one")), pairs("CHAP_N", "a", "CHAP_R", answerOf("one")[2:]), pairs("CHAP_N", "a", "CHAP_R", answerOf("one")+"00"),
		pairs("CHAP_N", "a", "CHAP_R", rightAnswer(8, "one", []byte{1, 2})), pairs("CHAP_N", "a", "CHAP_R", rightAnswer(7, "one", []byte{1, 3})),
		pairs("CHAP_N", "a", "CHAP_R", "one"), pairs("CHAP_N", "a", "CHAP_r", answerOf("one")),
		pairs("CHAP_N", "a", "CHAP_R", "0x00", "CHAP_R", answerOf("one")), pairs("CHAP_R", answerOf("one"), "CHAP_N", "c", "CHAP_N", "a"),
	} {
		l := asked(t, User{"a", "one"}, User{"b", "two"})
		wantFail(t, l, Request{Next: 3, Transit: true, Keys: keys}, 1)
	}
}

func TestAnswersAheadOfTheChallenge(t *testing.T) {
	right := pairs("CHAP_N", "u", "CHAP_R", answerOf("s"))
	wantFail(t, New(withUser(), 7, []byte{1, 2}), Request{Keys: append(named(), right...)}, 1)
	wantFail(t, New(withUser(), 7, []byte{1, 2}), Request{Keys: append(named("AuthMethod", "CHAP"), right...)}, 1)
	l := New(withUser(), 7, []byte{1, 2})
	wantStep(t, l, Request{Keys: named("AuthMethod", "CHAP")}, Answer{Keys: pairs("AuthMethod", "CHAP")})
	wantFail(t, l, Request{Keys: append(right, pairs("CHAP_A", "5")...)}, 1)
	// Without users there is no challenge at all.
	wantFail(t, New(plain(), 7, []byte{1, 2}), Request{Stage: 1, Keys: append(named(), right...)}, 1)
	wantFail(t, New(plain(), 7, []byte{1, 2}), Request{Keys: append(named("AuthMethod", "None"), right...)}, 1)
}

// An answer counts once: behind it the challenge must be told again.
func TestAnswersTwice(t *testing.T) {
	right := pairs("CHAP_N", "u", "CHAP_R", answerOf("s"))
	l := asked(t, User{"u", "s"})
	wantStep(t, l, Request{Keys: right}, Answer{})
	wantFail(t, l, Request{Next: 3, Transit: true, Keys: right}, 1)
	wantFail(t, asked(t, User{"u", "s"}), Request{Keys: append(right, right...)}, 1)
	l = asked(t, User{"u", "s"})
	wantStep(t, l, Request{Keys: right}, Answer{})
	told := pairs("CHAP_A", "5", "CHAP_I", "7", "CHAP_C", "0x0102")
	wantStep(t, l, Request{Keys: pairs("CHAP_A", "5")}, Answer{Keys: told})
	wantStep(t, l, Request{Keys: right}, Answer{})
	// Proved is proved, though the challenge is told once more.
	wantStep(t, l, Request{Next: 1, Transit: true, Keys: pairs("CHAP_A", "5")}, Answer{Next: 1, Transit: true, Keys: told})
	wantStep(t, l, Request{Stage: 1, Keys: right}, Answer{Stage: 1})
	wantFail(t, l, Request{Stage: 1, Keys: pairs("CHAP_A", "5", "CHAP_N", "u")}, 1)
}

// All of it in one step, since keys are answered in order.
func TestAllInOneStep(t *testing.T) {
	l := New(withUser(), 7, []byte{1, 2})
	keys := named("CHAP_R", answerOf("s"), "AuthMethod", "CHAP", "CHAP_A", "5", "CHAP_N", "u", "MaxBurstLength", "512")
	wantStep(t, l, Request{Next: 3, Transit: true, Keys: keys},
		Answer{Next: 3, Transit: true, Keys: pairs("AuthMethod", "CHAP", "CHAP_A", "5", "CHAP_I", "7", "CHAP_C", "0x0102", "MaxBurstLength", "512")})
	wantEnd(t, l, true, true)
	// But not in the stage Operational, where it must be proved ahead of the keys.
	wantFail(t, New(withUser(), 7, []byte{1, 2}), Request{Stage: 1, Next: 3, Transit: true, Keys: keys}, 1)
}
