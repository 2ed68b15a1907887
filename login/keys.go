package login

import (
	"strconv"

	"pallet/api"
	"pallet/chap"
	"pallet/text"
)

// Keys that are looked for, beside being answered in their turn.
const (
	initiatorName = "InitiatorName"
	sessionType   = "SessionType"
	targetName    = "TargetName"
	chapResponse  = "CHAP_R"
)

// What keys have as values.
const (
	normal        = "Normal"
	discovery     = "Discovery"
	withSecret    = "CHAP"
	none          = "None"
	sumMethod     = "5"
	crc32c        = "CRC32C"
	yes           = "Yes"
	reject        = "Reject"
	notUnderstood = "NotUnderstood"
)

// Lengths that are offered, and what we would have a burst be.
const (
	leastLength = 512
	mostLength  = 1<<24 - 1
	ownBurst    = 65536
)

// answerKeys answers keys in order; false: one of them doesn't prove what it should.
func (l *Login) answerKeys(keys []api.Pair) ([]api.Pair, bool) {
	response, _ := text.Find(keys, chapResponse)
	var answers []api.Pair
	for _, one := range keys {
		more, ok := l.answerKey(one, response)
		if !ok {
			return nil, false
		}
		answers = append(answers, more...)
	}
	return answers, true
}

// answerKey answers a key; the response stands in a key of its own, which may come behind the user's name.
func (l *Login) answerKey(one api.Pair, response string) ([]api.Pair, bool) {
	switch one.Key {
	case initiatorName, "InitiatorAlias", sessionType, targetName, chapResponse:
		return nil, true
	case "AuthMethod":
		l.method = text.First(one.Value, l.methods())
		return []api.Pair{{Key: one.Key, Value: l.method}}, l.method != reject
	case "CHAP_A":
		l.told = l.method == withSecret && text.First(one.Value, []string{sumMethod}) == sumMethod
		return l.challengeKeys(), l.told
	case "CHAP_N":
		l.proved = l.told && l.knows(one.Value, response)
		l.told = false
		return nil, l.proved
	}
	value := l.agree(one.Key, one.Value)
	if value == "" {
		return nil, true
	}
	return []api.Pair{{Key: one.Key, Value: value}}, true
}

// methods are those by which it is proved who it is: where there are users no other way than a secret.
func (l *Login) methods() []string {
	if len(l.config.Users) > 0 {
		return []string{withSecret}
	}
	return []string{none}
}

func (l *Login) challengeKeys() []api.Pair {
	return []api.Pair{
		{Key: "CHAP_A", Value: sumMethod},
		{Key: "CHAP_I", Value: strconv.Itoa(int(l.id))},
		{Key: "CHAP_C", Value: chap.Hex(l.challenge)},
	}
}

// knows: a user of that name has a secret to which the response is the right one.
func (l *Login) knows(name, response string) bool {
	for _, user := range l.config.Users {
		if user.Name == name && chap.Right(l.id, user.Secret, l.challenge, response) {
			return true
		}
	}
	return false
}

// agree takes what is offered with a key on how things will go, and tells what is answered to it; empty: nothing is.
func (l *Login) agree(key, offer string) string {
	p := &l.params
	switch key {
	case "HeaderDigest":
		return l.agreeSums(offer, &p.Headers)
	case "DataDigest":
		return l.agreeSums(offer, &p.Data)
	case "MaxRecvDataSegmentLength":
		// It is told, not asked: that it is taken needs no answer.
		if agreeLength(offer, api.MaxData, &p.Segment) == reject {
			return reject
		}
		return ""
	case "MaxBurstLength":
		return agreeLength(offer, ownBurst, &p.Burst)
	case "FirstBurstLength":
		return agreeLength(offer, ownBurst, &p.First)
	case "InitialR2T":
		return agreed(text.Either(offer, false), &p.Ready)
	case "ImmediateData":
		return agreed(text.Both(offer, true), &p.Immediate)
	case "MaxOutstandingR2T", "MaxConnections":
		return text.Least(offer, 1, 1, 65535)
	case "ErrorRecoveryLevel":
		return text.Least(offer, 0, 0, 2)
	case "DataPDUInOrder", "DataSequenceInOrder":
		return text.Either(offer, true)
	}
	return notUnderstood
}

// agreeSums: a rejected offer leaves no sums, too.
func (l *Login) agreeSums(offer string, summed *bool) string {
	own := []string{none}
	if l.config.Sums {
		own = []string{crc32c, none}
	}
	value := text.First(offer, own)
	*summed = value == crc32c
	return value
}

// agreeLength: a rejected offer leaves the length as it was.
func agreeLength(offer string, own uint64, length *int) string {
	value := text.Least(offer, own, leastLength, mostLength)
	if v, ok := text.Number(value); ok {
		*length = int(v)
	}
	return value
}

// agreed tells what Both or Either told: a rejected offer leaves what holds as it was.
func agreed(value string, holds *bool) string {
	if value != reject {
		*holds = value == yes
	}
	return value
}
