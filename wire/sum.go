package wire

import (
	"bollard/api"
	"bytes"
)

const (
	sumStart  = 2166136261
	sumFactor = 16777619
	sumSize   = 4
)

// Sum is the sum of bytes.
func Sum(b []byte) uint32 {
	sum := uint32(sumStart)
	for _, x := range b {
		sum = (sum ^ uint32(x)) * sumFactor
	}
	return sum
}

// Seal puts the sum behind bytes.
func Seal(b []byte) []byte {
	sealed := make([]byte, 0, len(b)+sumSize)
	sealed = append(sealed, b...)
	sum := Sum(b)
	return append(sealed, byte(sum>>24), byte(sum>>16), byte(sum>>8), byte(sum))
}

// Open asks the sum, and takes it off.
func Open(b []byte) ([]byte, error) {
	if len(b) < sumSize {
		return nil, api.ErrBytes
	}
	ahead := b[:len(b)-sumSize]
	if !bytes.Equal(Seal(ahead), b) {
		return nil, api.ErrDigest
	}
	return bytes.Clone(ahead), nil
}
