package sbc

import (
	"pallet/api"
)

// The bytes of a command that a sense may point at; of either the highest bit is told.
const (
	opField   = 0
	protField = 1
	highBit   = 7
	noBit     = -1 // of a fault that is no single bit's
)

// ended: this is why a command ended; nothing that ends one has NoSense as its key.
func ended(why api.Sense) bool { return why.Key != api.NoSense }

func plain(key byte, code uint16) api.Sense {
	return api.Sense{Key: key, Code: code}
}

// numbered tells a block's or a byte's number, too.
func numbered(key byte, code uint16, n uint64) api.Sense {
	return api.Sense{Key: key, Code: code, Info: n, HasInfo: true}
}

// inCommand points at a byte of the command.
func inCommand(code uint16, field int) api.Sense {
	return api.Sense{Key: api.IllegalReq, Code: code, Field: field, Bit: highBit, HasField: true, InCmd: true}
}

// inParameters points at a byte of what came with the command.
func inParameters(field int) api.Sense {
	return api.Sense{Key: api.IllegalReq, Code: api.InvalidParam, Field: field, Bit: noBit, HasField: true}
}

func wrongLength() api.Sense { return plain(api.IllegalReq, api.ParamLength) }
