package sess

import (
	"pallet/api"
	"pallet/text"
)

const sendTargets = "SendTargets"

// answerKeys tells the answers to the keys of a text; they need not be such a text themselves: one key may stand there many times.
func (s *Session) answerKeys(p []byte) []byte {
	keys, e := text.Parse(p)
	if e != api.OK {
		return nil
	}
	var out []byte
	for _, one := range keys {
		switch {
		case one.Key == sendTargets && one.Value == s.allTargets():
			for _, name := range s.targets {
				if s.tells(name) {
					out = appendPair(out, "TargetName", name)
				}
			}
		case one.Key == sendTargets:
			out = appendPair(out, one.Key, "Reject")
		default:
			out = appendPair(out, one.Key, "NotUnderstood")
		}
	}
	return out
}

// allTargets tells the value by which a session asks for all targets that it may be told.
func (s *Session) allTargets() string {
	if s.params.Discovery {
		return "All"
	}
	return ""
}

// tells: a session may be told of a target; who has logged in to one is told of no other.
func (s *Session) tells(name string) bool {
	return s.params.Discovery || name == s.params.Target
}

func appendPair(out []byte, key, value string) []byte {
	return append(out, key+"="+value+"\x00"...)
}
