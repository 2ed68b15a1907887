package unit

import (
	"pallet/api"
	"pallet/pr"
)

// Class tells how a kind of commands stands to reservations.
func Class(k api.Kind) pr.Class {
	switch k {
	case api.TestReady, api.Read, api.Verify, api.ModeSense:
		return pr.Reads
	case api.ModeSelect, api.SyncCache, api.Copy:
		return pr.Writes
	}
	if Alters(k) {
		return pr.Writes
	}
	return pr.Free
}

// Alters tells whether a kind of commands writes blocks of the unit itself.
func Alters(k api.Kind) bool {
	switch k {
	case api.Write, api.WriteVerify, api.WriteSame, api.Unmap, api.CompareWrite:
		return true
	}
	return false
}

// goesAhead: such a command is carried out though the nexus has still to be told something.
func goesAhead(k api.Kind) bool {
	switch k {
	case api.Inquiry, api.ReportLuns, api.RequestSense:
		return true
	}
	return false
}
