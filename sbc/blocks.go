package sbc

import (
	"pallet/api"
	"pallet/pi"
)

// withTuples: the blocks that come and go with a command have their tuples.
func withTuples(c api.Cmd) bool { return c.Prot != 0 }

// unpack tells the n blocks that parameters must be.
func unpack(c api.Cmd, p []byte, n int) ([]api.Block, api.Sense) {
	list, ok := pi.Unpack(p, withTuples(c))
	if !ok || len(list) != n {
		return nil, wrongLength()
	}
	return list, api.Sense{}
}

// come tells the n blocks that came, as they are to be written from c.LBA on.
func (d *Dev) come(c api.Cmd, p []byte, n int) ([]api.Block, api.Sense) {
	list, why := unpack(c, p, n)
	if ended(why) {
		return nil, why
	}
	return list, d.protect(c, list)
}

// protect gives blocks that came without tuples theirs, and looks at those that came with them.
func (d *Dev) protect(c api.Cmd, list []api.Block) api.Sense {
	if withTuples(c) {
		return d.look(c, list)
	}
	for i := range list {
		list[i].Tuple = pi.Make(d.Prot, c.LBA+uint64(i), list[i].Data, 0)
	}
	return api.Sense{}
}

// look tells the first of the blocks from c.LBA on that its tuple says is wrong.
func (d *Dev) look(c api.Cmd, list []api.Block) api.Sense {
	for i, b := range list {
		lba := c.LBA + uint64(i)
		if code := pi.Check(d.Prot, c.Prot, lba, b); code != api.NoCode {
			return numbered(api.AbortedCmd, code, lba)
		}
	}
	return api.Sense{}
}

// read tells the blocks of a command, none of them wrong.
func (d *Dev) read(c api.Cmd) ([]api.Block, api.Sense) {
	list, n, e := d.Store.Read(int(c.LBA), int(c.Blocks))
	if e != api.OK {
		return nil, numbered(api.MediumError, api.ReadFault, c.LBA+uint64(n))
	}
	if why := d.look(c, list); ended(why) {
		return nil, why
	}
	return list, api.Sense{}
}

// write lays blocks from c.LBA on.
func (d *Dev) write(c api.Cmd, list []api.Block, fua bool) api.Sense {
	n, e := d.Store.Write(int(c.LBA), list, fua)
	return written(c.LBA, n, e)
}

// empty unmaps n blocks from lba on.
func (d *Dev) empty(lba uint64, n int) api.Sense {
	n, e := d.Store.Unmap(int(lba), n)
	return written(lba, n, e)
}

// written tells the block behind the n that were written from lba on, if there was an error.
func written(lba uint64, n int, e api.Errno) api.Sense {
	if e != api.OK {
		return numbered(api.MediumError, api.WriteFault, lba+uint64(n))
	}
	return api.Sense{}
}

// compare reads the blocks of a command, and tells the first byte of their data that is another one than wanted.
func (d *Dev) compare(c api.Cmd, wanted []api.Block) api.Sense {
	list, why := d.read(c)
	if ended(why) {
		return why
	}
	if at, ok := differ(list, wanted); ok {
		return numbered(api.Miscompare, api.Miscompared, uint64(at))
	}
	return api.Sense{}
}

// differ tells the first place in which the data of as many blocks are unlike.
func differ(a, b []api.Block) (int, bool) {
	for i := range a {
		if a[i].Data == b[i].Data {
			continue
		}
		for j := range api.BlockSize {
			if a[i].Data[j] != b[i].Data[j] {
				return i*api.BlockSize + j, true
			}
		}
	}
	return 0, false
}

// repeat tells n times a block that came, for the places from lba on.
func (d *Dev) repeat(b api.Block, lba uint64, n int) []api.Block {
	list := make([]api.Block, n)
	for i := range list {
		list[i] = b
		// Ref is all of a tuple that hangs on the place, whether it came or was made.
		if d.Prot == 1 || d.Prot == 2 {
			list[i].Tuple.Ref = uint32(lba + uint64(i))
		}
	}
	return list
}
