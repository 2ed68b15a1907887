// Package crc is layer 2: CRC32C and the guard (T10's CRC-16), bit by bit.
package crc

const (
	poly32 = 0x82f63b78 // turned round, for the lowest bit falls out first
	poly16 = 0x8bb7
)

// C32 tells CRC32C of p.
func C32(p []byte) uint32 { return Add32(0, p) }

// Add32 tells CRC32C of bytes whose sum is told, with p behind them.
func Add32(sum uint32, p []byte) uint32 {
	reg := ^sum
	for i := range len(p) {
		reg = step32(reg ^ uint32(p[i]))
	}
	return ^reg
}

func step32(reg uint32) uint32 {
	for range 8 {
		out := reg & 1
		reg >>= 1
		if out == 1 {
			reg ^= poly32
		}
	}
	return reg
}

// C16 tells the guard of p.
func C16(p []byte) uint16 { return Add16(0, p) }

// Add16 tells the guard of bytes whose guard is told, with p behind them.
func Add16(sum uint16, p []byte) uint16 {
	reg := sum
	for i := range len(p) {
		reg = step16(reg ^ uint16(p[i])<<8)
	}
	return reg
}

func step16(reg uint16) uint16 {
	for range 8 {
		out := reg >> 15
		reg <<= 1
		if out == 1 {
			reg ^= poly16
		}
	}
	return reg
}
