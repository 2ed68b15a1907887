package cdb

import "pallet/api"

// The operations, with the count of a command's bytes where several have one name.
const (
	testReady      = 0x00
	requestSense   = 0x03
	read6          = 0x08
	write6         = 0x0a
	inquiry        = 0x12
	modeSelect6    = 0x15
	modeSense6     = 0x1a
	readCapacity10 = 0x25
	read10         = 0x28
	write10        = 0x2a
	writeVerify10  = 0x2e
	verify10       = 0x2f
	syncCache10    = 0x35
	writeSame10    = 0x41
	unmap10        = 0x42
	modeSelect10   = 0x55
	modeSense10    = 0x5a
	prIn           = 0x5e
	prOut          = 0x5f
	copy16         = 0x83
	read16         = 0x88
	compareWrite16 = 0x89
	write16        = 0x8a
	syncCache16    = 0x91
	writeSame16    = 0x93
	readCapacity16 = 0x9e
	reportLuns     = 0xa0
)

// Bits of the byte 1.
const (
	serviceBits = 0x1f
	serviceBit  = 4 // the highest of them
	protBits    = 0xe0
	anyBit      = 0x10 // a hint on caches, which may be anything
	fuaBit      = 0x08
	unmapBit    = 0x08
	bytesBit    = 0x02
	pageFormat  = 0x10
	saveBit     = 0x01
	noBlocksBit = 0x08 // of ModeSense: no descriptors of blocks, of which there are none
)

// looked tells the bits of a command's bytes that are looked at, in new memory; nil: there is no such operation.
func looked(op byte) []byte {
	switch op {
	case testReady:
		return []byte{op, 0, 0, 0, 0, 0}
	case requestSense:
		return []byte{op, 0x01, 0, 0, 0xff, 0}
	case read6, write6:
		return []byte{op, 0x1f, 0xff, 0xff, 0xff, 0}
	case inquiry:
		return []byte{op, 0x01, 0xff, 0xff, 0xff, 0}
	case modeSelect6:
		return []byte{op, pageFormat | saveBit, 0, 0, 0xff, 0}
	case modeSense6:
		return []byte{op, noBlocksBit, 0xff, 0, 0xff, 0}
	case readCapacity10:
		return []byte{op, 0, 0, 0, 0, 0, 0, 0, 0, 0}
	case read10, write10:
		return blocks10(op, protBits|anyBit|fuaBit)
	case writeVerify10:
		return blocks10(op, protBits|anyBit)
	case verify10:
		return blocks10(op, protBits|anyBit|bytesBit)
	case syncCache10:
		return blocks10(op, 0)
	case writeSame10:
		return blocks10(op, protBits|unmapBit)
	case unmap10:
		return alloc10(op, 0, 0)
	case modeSelect10:
		return alloc10(op, pageFormat|saveBit, 0)
	case modeSense10:
		return alloc10(op, noBlocksBit, 0xff)
	case prIn:
		return alloc10(op, serviceBits, 0)
	case prOut:
		return []byte{op, serviceBits, 0x0f, 0, 0, 0xff, 0xff, 0xff, 0xff, 0}
	case copy16, readCapacity16:
		return []byte{op, serviceBits, 0, 0, 0, 0, 0, 0, 0, 0, 0xff, 0xff, 0xff, 0xff, 0, 0}
	case read16, write16:
		return blocks16(op, protBits|anyBit|fuaBit)
	case compareWrite16:
		return []byte{op, protBits | anyBit | fuaBit, 0xff, 0xff, 0xff, 0xff, 0xff, 0xff, 0xff, 0xff, 0, 0, 0, 0xff, 0, 0}
	case syncCache16:
		return blocks16(op, 0)
	case writeSame16:
		return blocks16(op, protBits|unmapBit)
	case reportLuns:
		return []byte{op, 0, 0x03, 0, 0, 0, 0xff, 0xff, 0xff, 0xff, 0, 0}
	}
	return nil
}

// blocks10: a command of 10 bytes on blocks.
func blocks10(op, first byte) []byte {
	return []byte{op, first, 0xff, 0xff, 0xff, 0xff, 0, 0xff, 0xff, 0}
}

// blocks16: a command of 16 bytes on blocks.
func blocks16(op, first byte) []byte {
	return []byte{op, first, 0xff, 0xff, 0xff, 0xff, 0xff, 0xff, 0xff, 0xff, 0xff, 0xff, 0xff, 0xff, 0, 0}
}

// alloc10: a command of 10 bytes that tells a count of bytes in two of them.
func alloc10(op, first, second byte) []byte {
	return []byte{op, first, second, 0, 0, 0, 0, 0xff, 0xff, 0}
}

// serves: an operation has a service; one that tells none has every one.
func serves(op, service byte) bool {
	switch op {
	case prIn:
		return service <= 3
	case prOut:
		return service <= 6
	case copy16:
		return service == 0
	case readCapacity16:
		return service == 0x10
	}
	return true
}

// kind tells what an operation that there is does.
func kind(op byte) api.Kind {
	switch op {
	case testReady:
		return api.TestReady
	case requestSense:
		return api.RequestSense
	case inquiry:
		return api.Inquiry
	case modeSelect6, modeSelect10:
		return api.ModeSelect
	case modeSense6, modeSense10:
		return api.ModeSense
	case readCapacity10, readCapacity16:
		return api.ReadCapacity
	case read6, read10, read16:
		return api.Read
	case write6, write10, write16:
		return api.Write
	case writeVerify10:
		return api.WriteVerify
	case verify10:
		return api.Verify
	case syncCache10, syncCache16:
		return api.SyncCache
	case writeSame10, writeSame16:
		return api.WriteSame
	case unmap10:
		return api.Unmap
	case compareWrite16:
		return api.CompareWrite
	case prIn:
		return api.PRIn
	case prOut:
		return api.PROut
	case copy16:
		return api.Copy
	case reportLuns:
		return api.ReportLuns
	}
	return api.NoCmd
}
