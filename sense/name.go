package sense

import "pallet/api"

// Name tells what a code means; the empty text of one that means nothing here.
func Name(code uint16) string {
	switch code {
	case api.NoCode:
		return "no additional sense information"
	case api.WriteFault:
		return "write error"
	case api.CopyTarget:
		return "copy target device not reachable"
	case api.GuardFailed:
		return "logical block guard check failed"
	case api.AppFailed:
		return "logical block application tag check failed"
	case api.RefFailed:
		return "logical block reference tag check failed"
	case api.ReadFault:
		return "unrecovered read error"
	case api.ParamLength:
		return "parameter list length error"
	case api.Miscompared:
		return "miscompare during verify operation"
	case api.InvalidOp:
		return "invalid command operation code"
	case api.OutOfRange:
		return "logical block address out of range"
	case api.InvalidField:
		return "invalid field in cdb"
	case api.NoUnit:
		return "logical unit not supported"
	case api.InvalidParam:
		return "invalid field in parameter list"
	case api.TooManySegs:
		return "too many segment descriptors"
	case api.Protected:
		return "write protected"
	case api.PowerOn:
		return "power on occurred"
	case api.ParamChanged:
		return "mode parameters changed"
	case api.ResPreempted:
		return "reservations preempted"
	case api.ResReleased:
		return "reservations released"
	case api.RegPreempted:
		return "registrations preempted"
	case api.Cleared:
		return "commands cleared by another initiator"
	}
	return ""
}
