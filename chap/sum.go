package chap

import (
	"math/bits"
	"slices"
)

// A block of a sum is so many bytes, its last eight the count of bits.
const (
	blockSize = 64
	countSize = 8
	wordSize  = 4
)

// addends are the whole parts of 2^32 times the sines of 1 to 64, without their signs: written out, as the last bits of a sine that is worked out hang on the machine.
var addends = [64]uint32{
	0xd76aa478, 0xe8c7b756, 0x242070db, 0xc1bdceee, 0xf57c0faf, 0x4787c62a, 0xa8304613, 0xfd469501,
	0x698098d8, 0x8b44f7af, 0xffff5bb1, 0x895cd7be, 0x6b901122, 0xfd987193, 0xa679438e, 0x49b40821,
	0xf61e2562, 0xc040b340, 0x265e5a51, 0xe9b6c7aa, 0xd62f105d, 0x02441453, 0xd8a1e681, 0xe7d3fbc8,
	0x21e1cde6, 0xc33707d6, 0xf4d50d87, 0x455a14ed, 0xa9e3e905, 0xfcefa3f8, 0x676f02d9, 0x8d2a4c8a,
	0xfffa3942, 0x8771f681, 0x6d9d6122, 0xfde5380c, 0xa4beea44, 0x4bdecfa9, 0xf6bb4b60, 0xbebfbc70,
	0x289b7ec6, 0xeaa127fa, 0xd4ef3085, 0x04881d05, 0xd9d4d039, 0xe6db99e5, 0x1fa27cf8, 0xc4ac5665,
	0xf4292244, 0x432aff97, 0xab9423a7, 0xfc93a039, 0x655b59c3, 0x8f0ccc92, 0xffeff47d, 0x85845dd1,
	0x6fa87e4f, 0xfe2ce6e0, 0xa3014314, 0x4e0811a1, 0xf7537e82, 0xbd3af235, 0x2ad7d2bb, 0xeb86d391,
}

// turns are by how many bits a number is turned, in each round, four steps one behind the other.
var turns = [4][4]int{
	{7, 12, 17, 22},
	{5, 9, 14, 20},
	{4, 11, 16, 23},
	{6, 10, 15, 21},
}

// Sum tells MD5 of bytes.
func Sum(p []byte) [16]byte {
	h := [4]uint32{0x67452301, 0xefcdab89, 0x98badcfe, 0x10325476}
	rest := len(p) % blockSize
	whole := p[:len(p)-rest]
	for block := range slices.Chunk(whole, blockSize) {
		h = mixed(h, block)
	}
	for block := range slices.Chunk(ending(p[len(whole):], len(p)), blockSize) {
		h = mixed(h, block)
	}
	var sum [16]byte
	for i, v := range h {
		putLowestFirst(sum[i*wordSize:(i+1)*wordSize], uint64(v))
	}
	return sum
}

// ending tells the last blocks of a sum: the bytes behind the whole blocks, and what is laid behind them.
func ending(rest []byte, size int) []byte {
	length := blockSize
	if len(rest)+1+countSize > blockSize {
		length += blockSize
	}
	end := make([]byte, length)
	copy(end, rest)
	end[len(rest)] = 0x80
	putLowestFirst(end[length-countSize:], uint64(size)*8)
	return end
}

// mixed tells the four numbers of a sum behind one more block.
func mixed(h [4]uint32, block []byte) [4]uint32 {
	var m [16]uint32
	for i := range len(m) {
		m[i] = word(block[i*wordSize:])
	}
	a, b, c, d := h[0], h[1], h[2], h[3]
	for i := range len(addends) {
		f, g := pick(i, b, c, d)
		turned := bits.RotateLeft32(a+f+addends[i]+m[g], turns[i/16][i%4])
		a, b, c, d = d, b+turned, b, c
	}
	return [4]uint32{h[0] + a, h[1] + b, h[2] + c, h[3] + d}
}

// pick tells what the step i makes of three of the numbers, and which word of the block it takes.
func pick(i int, b, c, d uint32) (uint32, int) {
	switch i / 16 {
	case 0:
		return b&c | ^b&d, i
	case 1:
		return d&b | ^d&c, (5*i + 1) % 16
	case 2:
		return b ^ c ^ d, (3*i + 5) % 16
	}
	return c ^ (b | ^d), 7 * i % 16
}

func word(p []byte) uint32 {
	return uint32(p[0]) | uint32(p[1])<<8 | uint32(p[2])<<16 | uint32(p[3])<<24
}

func putLowestFirst(p []byte, v uint64) {
	for i := range p {
		p[i] = byte(v >> (8 * i))
	}
}
