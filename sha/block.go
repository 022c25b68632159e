package sha

import "math/bits"

const blockSize = 64

// block is 64 bytes of a message.
type block [blockSize]byte

// counting is the block with the number of the bits of so many bytes at its end.
func (b block) counting(length int) block {
	count := uint64(length) * 8
	for i := blockSize - 1; i >= countPlace; i-- {
		b[i] = byte(count)
		count >>= 8
	}
	return b
}

// schedule are the words w(0) to w(63) of the block.
func (b block) schedule() [64]uint32 {
	var w [64]uint32
	for t := range 16 {
		w[t] = uint32(b[4*t])<<24 | uint32(b[4*t+1])<<16 | uint32(b[4*t+2])<<8 | uint32(b[4*t+3])
	}
	for t := 16; t < 64; t++ {
		s0 := turn(w[t-15], 7) ^ turn(w[t-15], 18) ^ w[t-15]>>3
		s1 := turn(w[t-2], 17) ^ turn(w[t-2], 19) ^ w[t-2]>>10
		w[t] = w[t-16] + s0 + w[t-7] + s1
	}
	return w
}

// turn is the word turned right by n bits.
func turn(x uint32, n int) uint32 { return bits.RotateLeft32(x, -n) }

// state is the words a to h.
type state [8]uint32

// start is the state ahead of the first block.
func start() state {
	return state{
		0x6a09e667, 0xbb67ae85, 0x3c6ef372, 0xa54ff53a,
		0x510e527f, 0x9b05688c, 0x1f83d9ab, 0x5be0cd19,
	}
}

// after is the state behind one more block.
func (s state) after(in block) state {
	w := in.schedule()
	a, b, c, d, e, f, g, h := s[0], s[1], s[2], s[3], s[4], s[5], s[6], s[7]
	for t := range 64 {
		t1 := h + (turn(e, 6) ^ turn(e, 11) ^ turn(e, 25)) + (e&f ^ ^e&g) + constants[t] + w[t]
		t2 := (turn(a, 2) ^ turn(a, 13) ^ turn(a, 22)) + (a&b ^ a&c ^ b&c)
		a, b, c, d, e, f, g, h = t1+t2, a, b, c, d+t1, e, f, g
	}
	return state{s[0] + a, s[1] + b, s[2] + c, s[3] + d, s[4] + e, s[5] + f, s[6] + g, s[7] + h}
}

// digest is the words as bytes, the highest first.
func (s state) digest() [32]byte {
	var out [32]byte
	for i, word := range s {
		out[4*i] = byte(word >> 24)
		out[4*i+1] = byte(word >> 16)
		out[4*i+2] = byte(word >> 8)
		out[4*i+3] = byte(word)
	}
	return out
}

// constants are K(0) to K(63).
var constants = [64]uint32{
	0x428a2f98, 0x71374491, 0xb5c0fbcf, 0xe9b5dba5, 0x3956c25b, 0x59f111f1, 0x923f82a4, 0xab1c5ed5,
	0xd807aa98, 0x12835b01, 0x243185be, 0x550c7dc3, 0x72be5d74, 0x80deb1fe, 0x9bdc06a7, 0xc19bf174,
	0xe49b69c1, 0xefbe4786, 0x0fc19dc6, 0x240ca1cc, 0x2de92c6f, 0x4a7484aa, 0x5cb0a9dc, 0x76f988da,
	0x983e5152, 0xa831c66d, 0xb00327c8, 0xbf597fc7, 0xc6e00bf3, 0xd5a79147, 0x06ca6351, 0x14292967,
	0x27b70a85, 0x2e1b2138, 0x4d2c6dfc, 0x53380d13, 0x650a7354, 0x766a0abb, 0x81c2c92e, 0x92722c85,
	0xa2bfe8a1, 0xa81a664b, 0xc24b8b70, 0xc76c51a3, 0xd192e819, 0xd6990624, 0xf40e3585, 0x106aa070,
	0x19a4c116, 0x1e376c08, 0x2748774c, 0x34b0bcb5, 0x391c0cb3, 0x4ed8aa4a, 0x5b9cca4f, 0x682e6ff3,
	0x748f82ee, 0x78a5636f, 0x84c87814, 0x8cc70208, 0x90befffa, 0xa4506ceb, 0xbef9a3f7, 0xc67178f2,
}
