package cdb

import (
	"pallet/api"
	"pallet/be"
)

// take tells the command that bytes are, all of it and no more, of an operation that there is.
func take(p []byte) api.Cmd {
	c := api.Cmd{Kind: kind(p[0])}
	switch c.Kind {
	case api.RequestSense:
		c.Long = p[1] != 0
		c.Alloc = count(p, 4, 1)
	case api.Inquiry:
		c.EVPD, c.Page = p[1] != 0, p[2]
		c.Alloc = count(p, 3, 2)
	case api.ModeSelect, api.ModeSense:
		return takeMode(c, p)
	case api.ReadCapacity:
		if p[0] == readCapacity16 {
			c.Long, c.Alloc = true, count(p, 10, 4)
		}
	case api.Unmap:
		c.Alloc = count(p, 7, 2)
	case api.PRIn:
		c.Service = p[1]
		c.Alloc = count(p, 7, 2)
	case api.PROut:
		c.Service, c.Type = p[1], p[2]
		c.Alloc = count(p, 5, 4)
	case api.Copy:
		c.Alloc = count(p, 10, 4)
	case api.ReportLuns:
		c.Page = p[2]
		c.Alloc = count(p, 6, 4)
	case api.Read, api.Write, api.WriteVerify, api.Verify, api.SyncCache, api.WriteSame, api.CompareWrite:
		return takeBlocks(c, p)
	}
	return c
}

// takeMode tells a command on pages of parameters with what its bytes, 6 or 10 of them, say.
func takeMode(c api.Cmd, p []byte) api.Cmd {
	if len(p) == 6 {
		c.Alloc = count(p, 4, 1)
	} else {
		c.Long, c.Alloc = true, count(p, 7, 2)
	}
	if c.Kind == api.ModeSelect {
		c.Save = p[1]&saveBit != 0
	} else {
		c.Control, c.Page = p[2]>>6, p[2]&0x3f
	}
	return c
}

// takeBlocks tells a command on blocks with what its bytes say.
func takeBlocks(c api.Cmd, p []byte) api.Cmd {
	if len(p) == 6 {
		// The byte 1 has bits of the LBA in the places of those that say more.
		c.LBA, c.Blocks = number(p, 1, 3), number(p, 4, 1)
		if c.Blocks == 0 {
			c.Blocks = 256
		}
		return c
	}
	at, n := blocksPlace(p)
	c.LBA, c.Blocks = number(p, 2, lbaSize(p)), number(p, at, n)
	c.Prot = p[1] >> 5
	switch c.Kind {
	case api.Read, api.Write, api.CompareWrite:
		c.FUA = p[1]&fuaBit != 0
	case api.WriteSame:
		c.Unmap = p[1]&unmapBit != 0
	case api.Verify:
		c.Bytes = p[1]&bytesBit != 0
	}
	return c
}

// lbaSize tells how many bytes, from the byte 2 on, the LBA of a command of 10 or 16 bytes has.
func lbaSize(p []byte) int {
	if len(p) == 10 {
		return 4
	}
	return 8
}

// blocksPlace tells where a command of 10 or 16 bytes says how many blocks, and in how many bytes.
func blocksPlace(p []byte) (int, int) {
	if len(p) == 10 {
		return 7, 2
	}
	// Of CompareWrite only the last one counts: the others must be 0.
	return 10, 4
}

// number tells the number in n bytes that are there.
func number(p []byte, at, n int) uint64 {
	v, _ := be.Get(p, at, n)
	return v
}

// count tells the number of at most 4 bytes that are there.
func count(p []byte, at, n int) int { return int(number(p, at, n)) }
