package mac

import "bollard/sha"

const blockSize = 64

// The marks keep the inner digest's key and the outer one's apart.
const (
	innerMark = 54
	outerMark = 92
)

// block is a key, filled up with 0s.
type block [blockSize]byte

// blockOf is the key as a block; one that doesn't fit counts as its digest.
func blockOf(key []byte) block {
	var out block
	if len(key) > blockSize {
		short := sha.Sum(key)
		copy(out[:], short[:])
		return out
	}
	copy(out[:], key)
	return out
}

// xor is the block with the mark on each byte.
func (b block) xor(mark byte) block {
	for i := range b {
		b[i] ^= mark
	}
	return b
}
