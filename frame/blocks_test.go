package frame

import (
	"bytes"
	"iter"
	"testing"
)

// goesOver asks that the iterator gives the blocks of b, each of 32 bytes but the last.
func goesOver(t *testing.T, blocks iter.Seq2[int, []byte], b []byte) {
	t.Helper()
	next := 0
	left := b
	for i, block := range blocks {
		if i != next || len(left) == 0 || !bytes.Equal(block, left[:min(32, len(left))]) {
			t.Fatalf("Blocks of %d bytes: %d %x", len(b), i, block)
		}
		next++
		left = left[len(block):]
	}
	if len(left) > 0 {
		t.Fatalf("Blocks of %d bytes: %d of them aren't gone over", len(b), len(left))
	}
}

// P6.1: of no bytes there are no blocks.
func TestNoBlocks(t *testing.T) {
	for _, b := range [][]byte{nil, {}, make([]byte, 0, 40)} {
		for i, block := range Blocks(b) {
			t.Errorf("a block of none: %d %x", i, block)
		}
	}
}

// P6.1: the chapter's example: of 33 bytes two blocks, of 32 and of 1.
func TestBlocksExample(t *testing.T) {
	var got []int
	for i, block := range Blocks(make([]byte, 33)) {
		got = append(got, i, len(block))
	}
	if len(got) != 4 || got[0] != 0 || got[1] != 32 || got[2] != 1 || got[3] != 1 {
		t.Error("Blocks of 33 bytes:", got)
	}
}

// P6.1: every length, such as no shard has among them; each iterator gone over twice.
func TestBlocks(t *testing.T) {
	r := source()
	for n := range 1100 {
		b := someBytes(r, n)
		blocks := Blocks(b)
		goesOver(t, blocks, b)
		goesOver(t, blocks, b)
	}
	for _, n := range []int{4095, 4096, 4097, 100001} {
		b := someBytes(r, n)
		goesOver(t, Blocks(b), b)
	}
}

// P6.1, rule 9: one that is left early gives no more, and begins anew.
func TestBlocksLeft(t *testing.T) {
	b := someBytes(source(), 100)
	blocks := Blocks(b)
	for stop := range 4 {
		seen := 0
		blocks(func(i int, block []byte) bool {
			if i != seen || seen > stop {
				t.Fatal("left at", stop, "and gone on with", i)
			}
			seen++
			return i != stop
		})
		if seen != stop+1 {
			t.Error("left at", stop, "behind", seen, "blocks")
		}
		goesOver(t, blocks, b)
	}
}

// Rule 9: several goings over one iterator have each its own place.
func TestBlocksWithin(t *testing.T) {
	b := someBytes(source(), 100)
	blocks := Blocks(b)
	outer := 0
	for i, block := range blocks {
		goesOver(t, blocks, b)
		if i != outer || !bytes.Equal(block, b[32*i:min(32*i+32, 100)]) {
			t.Fatal("the outer one is moved by the inner one:", i)
		}
		outer++
	}
	if outer != 4 {
		t.Error("blocks of 100 bytes:", outer)
	}
}
