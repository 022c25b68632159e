package frame

import (
	"bollard/api"
	"bollard/sha"
	"bytes"
	"iter"
	"slices"
)

const digestSize = 32

// Blocks goes over the blocks of bytes.
func Blocks(b []byte) iter.Seq2[int, []byte] {
	// Both copies are needed: the caller may change b ahead of going over it, and a block ahead of going over it again.
	kept := bytes.Clone(b)
	return func(yield func(int, []byte) bool) {
		number := 0
		for block := range slices.Chunk(kept, api.MaxBlock) {
			if !yield(number, bytes.Clone(block)) {
				return
			}
			number++
		}
	}
}

// bodyOf is what stands behind the head: each block of the shard and its digest.
func bodyOf(shard []byte) []byte {
	body := make([]byte, 0, bodySize(len(shard)))
	for _, block := range Blocks(shard) {
		digest := sha.Sum(block)
		body = append(body, block...)
		body = append(body, digest[:]...)
	}
	return body
}

// bodySize is how many bytes bodyOf gives of a shard of so many bytes.
func bodySize(size int) int {
	blocks := (size + api.MaxBlock - 1) / api.MaxBlock
	return size + blocks*digestSize
}

// shardOf is the shard of a body that has some shard's bodySize; false, if a digest isn't that of its block.
func shardOf(body []byte) ([]byte, bool) {
	shard := make([]byte, 0, len(body))
	for piece := range slices.Chunk(body, api.MaxBlock+digestSize) {
		end := len(piece) - digestSize
		block := piece[:end]
		if sha.Sum(block) != [digestSize]byte(piece[end:]) {
			return nil, false
		}
		shard = append(shard, block...)
	}
	return shard, true
}
