package login

import (
	"crypto/md5"
	"encoding/hex"
	"math/big"
	"math/rand"
	"reflect"
	"slices"
	"strconv"
	"strings"
	"testing"

	"pallet/api"
)

// model is a login told anew by the chapter's words, without the layers below it.
type model struct {
	config     Config
	id         byte
	challenge  []byte
	steps      int
	stage      int
	agreedOn   string
	isTold     bool
	isProved   bool
	isDone     bool
	isOver     bool
	params     Params
	answered   []api.Pair
	answerKeys map[string]func(key, value string, all []api.Pair)
}

// failure is how the model gives up a step.
type failure byte

func newModel(c Config, id byte, challenge []byte) *model {
	m := &model{config: c, id: id, challenge: slices.Clone(challenge), isProved: len(c.Users) == 0}
	m.config.Targets = slices.Clone(c.Targets)
	m.config.Users = slices.Clone(c.Users)
	m.params = Params{Segment: 8192, Burst: 65536, First: 65536, Immediate: true, Ready: true}
	m.answerKeys = map[string]func(key, value string, all []api.Pair){
		"InitiatorName":            m.silence,
		"InitiatorAlias":           m.silence,
		"SessionType":              m.silence,
		"TargetName":               m.silence,
		"CHAP_R":                   m.silence,
		"AuthMethod":               m.authMethod,
		"CHAP_A":                   m.chapA,
		"CHAP_N":                   m.chapN,
		"HeaderDigest":             m.digest(&m.params.Headers),
		"DataDigest":               m.digest(&m.params.Data),
		"MaxRecvDataSegmentLength": m.segment,
		"MaxBurstLength":           m.number(65536, 512, 16777215, &m.params.Burst),
		"FirstBurstLength":         m.number(65536, 512, 16777215, &m.params.First),
		"InitialR2T":               m.word(map[string]string{"Yes": "Yes", "No": "No"}, &m.params.Ready),
		"ImmediateData":            m.word(map[string]string{"Yes": "Yes", "No": "No"}, &m.params.Immediate),
		"MaxOutstandingR2T":        m.number(1, 1, 65535, new(int)),
		"MaxConnections":           m.number(1, 1, 65535, new(int)),
		"ErrorRecoveryLevel":       m.number(0, 0, 2, new(int)),
		"DataPDUInOrder":           m.word(map[string]string{"Yes": "Yes", "No": "Yes"}, new(bool)),
		"DataSequenceInOrder":      m.word(map[string]string{"Yes": "Yes", "No": "Yes"}, new(bool)),
	}
	return m
}

func (m *model) step(r Request) (a Answer, e api.Errno) {
	if m.isOver {
		return Answer{}, api.ErrState
	}
	defer func() {
		if why := recover(); why != nil {
			m.isOver = true
			a, e = Answer{Class: 2, Detail: byte(why.(failure))}, api.OK
		}
	}()
	m.steps++
	if m.steps == 1 {
		m.first(r)
	}
	m.mayGo(r)
	m.answered = nil
	for _, one := range r.Keys {
		if f := m.answerKeys[one.Key]; f != nil {
			f(one.Key, one.Value, r.Keys)
		} else {
			m.say(one.Key, "NotUnderstood")
		}
	}
	a = Answer{Stage: r.Stage, Keys: m.answered}
	if r.Transit && m.isProved {
		a.Transit, a.Next, m.stage = true, r.Next, int(r.Next)
		if r.Next == 3 {
			m.isDone, m.isOver = true, true
		}
	}
	return a, api.OK
}

func (m *model) first(r Request) {
	m.stage = int(r.Stage)
	if m.stage > 1 {
		panic(failure(0))
	}
	m.params.Initiator = strings.Join(m.valuesOf(r.Keys, "InitiatorName"), "")
	types := m.valuesOf(r.Keys, "SessionType")
	m.params.Discovery = slices.Equal(types, []string{"Discovery"})
	if m.params.Initiator == "" {
		panic(failure(7))
	}
	if len(types) > 0 && types[0] != "Normal" && types[0] != "Discovery" {
		panic(failure(9))
	}
	if m.params.Discovery {
		return
	}
	targets := m.valuesOf(r.Keys, "TargetName")
	m.params.Target = strings.Join(targets, "")
	if m.params.Target == "" {
		panic(failure(7))
	}
	for _, name := range m.config.Targets {
		if name == m.params.Target {
			return
		}
	}
	panic(failure(3))
}

// valuesOf tells the value of the first pair with a key as a list of one, of none as an empty list.
func (m *model) valuesOf(l []api.Pair, key string) []string {
	at := slices.IndexFunc(l, func(one api.Pair) bool { return one.Key == key })
	if at < 0 {
		return nil
	}
	return []string{l[at].Value}
}

func (m *model) mayGo(r Request) {
	if int(r.Stage) != m.stage {
		panic(failure(0))
	}
	ways := [][2]byte{{0, 1}, {0, 3}, {1, 3}}
	if r.Transit && !slices.Contains(ways, [2]byte{r.Stage, r.Next}) {
		panic(failure(0))
	}
	if r.Stage == 1 && !m.isProved {
		panic(failure(1))
	}
}

func (m *model) say(key, value string) {
	m.answered = append(m.answered, api.Pair{Key: key, Value: value})
}

func (m *model) silence(key, value string, all []api.Pair) {}

func firstOf(offer string, own ...string) string {
	for _, piece := range strings.Split(offer, ",") {
		for _, one := range own {
			if piece == one {
				return one
			}
		}
	}
	return "Reject"
}

func (m *model) authMethod(key, value string, all []api.Pair) {
	own := "None"
	if len(m.config.Users) > 0 {
		own = "CHAP"
	}
	m.agreedOn = firstOf(value, own)
	if m.agreedOn == "Reject" {
		panic(failure(1))
	}
	m.say(key, m.agreedOn)
}

func (m *model) chapA(key, value string, all []api.Pair) {
	if m.agreedOn != "CHAP" || firstOf(value, "5") == "Reject" {
		panic(failure(1))
	}
	m.isTold = true
	m.say("CHAP_A", "5")
	m.say("CHAP_I", strconv.Itoa(int(m.id)))
	m.say("CHAP_C", "0x"+hex.EncodeToString(m.challenge))
}

// rightAnswer tells the answer to a challenge by the library's ways.
func rightAnswer(id byte, secret string, challenge []byte) string {
	sum := md5.Sum(slices.Concat([]byte{id}, []byte(secret), challenge))
	return "0x" + hex.EncodeToString(sum[:])
}

func (m *model) chapN(key, value string, all []api.Pair) {
	response := strings.Join(m.valuesOf(all, "CHAP_R"), "")
	for _, user := range m.config.Users {
		if m.isTold && user.Name == value && strings.EqualFold(response, rightAnswer(m.id, user.Secret, m.challenge)) {
			m.isProved, m.isTold = true, false
			return
		}
	}
	panic(failure(1))
}

func (m *model) digest(summed *bool) func(key, value string, all []api.Pair) {
	return func(key, value string, all []api.Pair) {
		said := firstOf(value, "None")
		if m.config.Sums {
			said = firstOf(value, "None", "CRC32C")
		}
		*summed = said == "CRC32C"
		m.say(key, said)
	}
}

// modelNumber tells a number from low to high, nil of any other text.
func modelNumber(s string, low, high int64) *big.Int {
	digits, base := s, 10
	if strings.HasPrefix(s, "0x") {
		digits, base = s[2:], 16
	}
	known := "0123456789abcdefABCDEF"
	if base == 10 {
		known = known[:10]
	}
	if digits == "" || strings.Trim(digits, known) != "" || base == 10 && len(s) > 1 && s[0] == '0' {
		return nil
	}
	v, ok := new(big.Int).SetString(digits, base)
	if !ok || v.Cmp(big.NewInt(low)) < 0 || v.Cmp(big.NewInt(high)) > 0 {
		return nil
	}
	return v
}

func (m *model) segment(key, value string, all []api.Pair) {
	v := modelNumber(value, 512, 16777215)
	if v == nil {
		m.say(key, "Reject")
		return
	}
	m.params.Segment = min(8192, int(v.Int64()))
}

func (m *model) number(own, low, high int64, at *int) func(key, value string, all []api.Pair) {
	return func(key, value string, all []api.Pair) {
		v := modelNumber(value, low, high)
		if v == nil {
			m.say(key, "Reject")
			return
		}
		*at = int(min(own, v.Int64()))
		m.say(key, strconv.Itoa(*at))
	}
}

func (m *model) word(said map[string]string, at *bool) func(key, value string, all []api.Pair) {
	return func(key, value string, all []api.Pair) {
		answer, ok := said[value]
		if !ok {
			m.say(key, "Reject")
			return
		}
		*at = answer == "Yes"
		m.say(key, answer)
	}
}

// sameAnswer: two answers say the same; nil and empty lists are the same.
func sameAnswer(a, b Answer) bool {
	if len(a.Keys) == 0 && len(b.Keys) == 0 {
		a.Keys, b.Keys = nil, nil
	}
	return reflect.DeepEqual(a, b)
}

// wantAsModel takes a step in both and holds all that can be asked against each other.
func wantAsModel(t *testing.T, l *Login, m *model, r Request) {
	t.Helper()
	got, e := l.Step(r)
	wanted, wantedError := m.step(r)
	if !sameAnswer(got, wanted) || e != wantedError {
		t.Fatalf("Step(%v) = %v, %d; want %v, %d", r, got, e, wanted, wantedError)
	}
	if l.Done() != m.isDone || l.Over() != m.isOver {
		t.Fatalf("behind %v: done %v, over %v; want %v, %v", r, l.Done(), l.Over(), m.isDone, m.isOver)
	}
	if l.Params() != m.params {
		t.Fatalf("behind %v: %v; want %v", r, l.Params(), m.params)
	}
}

func anyOne[T any](r *rand.Rand, list ...T) T {
	return list[r.Intn(len(list))]
}

// anyValue tells a value for a key, mostly one that makes sense there.
func anyValue(r *rand.Rand, m *model, key string) string {
	if r.Intn(60) == 0 {
		return anyOne(r, "", " ", "Reject", "NotUnderstood", "Irrelevant", "?", ",", "5", "Yes", "1024", "CHAP", "None", "0x", "Discovery")
	}
	switch key {
	case "InitiatorName", "InitiatorAlias":
		return anyOne(r, "i", "j", "iqn.2001-04.com.example:host")
	case "TargetName":
		return anyOne(r, "t", "t", "t", "t", "t", "t", "t", "t", "u", "T")
	case "SessionType":
		return anyOne(r, "Normal", "Normal", "Normal", "Discovery", "discovery")
	case "AuthMethod":
		return anyOne(r, "CHAP,None", "None,CHAP", "CHAP,None", "KRB5,CHAP,None", anyOne(r, "CHAP", "None", "KRB5"))
	case "CHAP_A":
		return anyOne(r, "5", "5", "5,7", "7,5", "6,5,8", anyOne(r, "5", "5", "7", "05"))
	case "CHAP_N":
		return anyOne(r, "a", "a", "a", "b", "c")
	case "CHAP_R":
		answer := rightAnswer(m.id, anyOne(r, "one", "one", "one", "two", "three"), m.challenge)
		return anyOne(r, answer, answer, answer, "0X"+strings.ToUpper(answer[2:]), anyOne(r, answer[2:], answer+"0", answer))
	case "HeaderDigest", "DataDigest":
		return anyOne(r, "CRC32C", "None", "CRC32C,None", "None,CRC32C", "CRC32", "crc32c", "CRC16,CRC32C", ",None")
	case "MaxRecvDataSegmentLength", "MaxBurstLength", "FirstBurstLength":
		return anyOne(r, "511", "512", "513", "0x200", "0x1FF", "8191", "8192", "8193", "65535", "65536", "65537", "16777214", "16777215", "16777216", "0xffffff",
			"0x1000000", "0", "01024", "1024", "18446744073709551615", "18446744073709551616", "-1", "4096x")
	case "InitialR2T", "ImmediateData", "DataPDUInOrder", "DataSequenceInOrder":
		return anyOne(r, "Yes", "No", "Yes", "No", "yes", "NO", "Yes,No")
	case "MaxOutstandingR2T", "MaxConnections":
		return anyOne(r, "0", "1", "2", "8", "65535", "65536", "0x1", "0xffff", "one")
	case "ErrorRecoveryLevel":
		return anyOne(r, "0", "1", "2", "3", "0x2", "00")
	}
	return anyOne(r, "x", "1", "")
}

// knownKeys are those that something else than NotUnderstood is answered to.
func knownKeys() []string {
	return []string{"InitiatorName", "InitiatorAlias", "SessionType", "TargetName", "AuthMethod", "CHAP_A", "CHAP_N", "CHAP_R",
		"HeaderDigest", "DataDigest", "MaxRecvDataSegmentLength", "MaxBurstLength", "FirstBurstLength", "InitialR2T", "ImmediateData",
		"MaxOutstandingR2T", "MaxConnections", "ErrorRecoveryLevel", "DataPDUInOrder", "DataSequenceInOrder"}
}

// anyKeys tells keys for the model's next step, mostly such that it can go on.
func anyKeys(r *rand.Rand, m *model) []api.Pair {
	astray := r.Intn(12) == 0
	secret := len(m.config.Users) > 0
	var keys []string
	if m.steps == 0 && !astray {
		keys = append(keys, "InitiatorName", "TargetName")
	}
	if r.Intn(3) == 0 || m.steps == 0 && secret {
		keys = append(keys, "AuthMethod")
	}
	if astray || secret && len(keys) == 0 && !m.isTold {
		keys = append(keys, "CHAP_A")
	}
	if astray || m.isTold && r.Intn(3) > 0 {
		keys = append(keys, "CHAP_N", "CHAP_R")
	}
	for range r.Intn(5) {
		keys = append(keys, anyOne(r, append(knownKeys()[8:], "X-com.example", "TargetAlias", "OFMarker", "initiatorname", "", "CHAP_I", "CHAP_C", "InitiatorAlias", "SessionType")...))
	}
	if r.Intn(4) == 0 {
		r.Shuffle(len(keys), func(i, j int) { keys[i], keys[j] = keys[j], keys[i] })
	}
	var l []api.Pair
	for _, key := range keys {
		l = append(l, api.Pair{Key: key, Value: anyValue(r, m, key)})
	}
	return l
}

func anyConfig(r *rand.Rand) Config {
	c := Config{Targets: anyOne(r, []string{"t"}, []string{"s", "t", "u"}, nil), Sums: r.Intn(2) == 0}
	if r.Intn(16) > 0 {
		c.Targets = append(c.Targets, "t")
	}
	if r.Intn(3) > 0 {
		c.Users = anyOne(r, []User{{"a", "one"}}, []User{{"b", "two"}, {"a", "one"}}, []User{{"a", "three"}, {"a", "one"}, {"c", "two"}})
	}
	return c
}

// Logins with any steps, of which many come to an end.
func TestAnyLogins(t *testing.T) {
	r := rand.New(rand.NewSource(12))
	var done, doneWithSecret, over, failedLate int
	for range 40000 {
		c, id, challenge := anyConfig(r), byte(r.Intn(256)), make([]byte, r.Intn(20))
		r.Read(challenge)
		l, m := New(c, id, challenge), newModel(c, id, challenge)
		stage := byte(anyOne(r, 0, 0, 0, 0, 1, r.Intn(5)))
		for range 6 {
			if r.Intn(30) > 0 && m.steps > 0 {
				stage = byte(m.stage)
			}
			next := anyOne(r, 1, 3, 3, 3, 3, anyOne(r, byte(r.Intn(5)), 255, 1, 3))
			wantAsModel(t, l, m, Request{Stage: stage, Next: next, Transit: r.Intn(3) == 0, Keys: anyKeys(r, m)})
		}
		switch {
		case m.isDone && len(c.Users) > 0:
			doneWithSecret++
		case m.isDone:
			done++
		case m.isOver && m.steps > 1:
			failedLate++
		case m.isOver:
			over++
		}
	}
	if done < 1000 || doneWithSecret < 500 || over < 1000 || failedLate < 1000 {
		t.Errorf("done %d, by a secret %d, failed at first %d, later %d", done, doneWithSecret, over, failedLate)
	}
}
