package unit

import (
	"pallet/api"
)

func good(data []byte) api.Result { return api.Result{Status: api.Good, Data: data} }

// check tells that a command ended, and why.
func check(why api.Sense) api.Result { return api.Result{Status: api.Check, Sense: why} }

func ends(key byte, code uint16) api.Result { return check(api.Sense{Key: key, Code: code}) }

func wrongLength() api.Result { return ends(api.IllegalReq, api.ParamLength) }
