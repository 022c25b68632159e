package rs

import (
	"bytes"
	"testing"

	"bollard/api"
	"bollard/gf"
)

// someCounts are numbers of bytes: none, few, those beside whole shards, and the most.
func someCounts(k int) []int {
	out := []int{0, 1, 2, 5, 31, 32, 33, 511, api.MaxBody - 1, api.MaxBody}
	for _, n := range []int{k - 1, k, k + 1, 2*k - 1, 2 * k, 2*k + 1} {
		out = append(out, n)
	}
	return out
}

// P2.1: Check, at all legal pairs, beside them, and at the least and greatest numbers.
func TestCheck(t *testing.T) {
	for _, w := range legal() {
		if err := Check(w.k, w.m); err != nil {
			t.Errorf("Check(%d, %d) = %v", w.k, w.m, err)
		}
	}
	for _, w := range illegal() {
		if err := Check(w.k, w.m); err != api.ErrParams {
			t.Errorf("Check(%d, %d) = %v, want ErrParams", w.k, w.m, err)
		}
	}
}

// P2.1: Size of every number of bytes, at all legal pairs.
func TestSizeOfAllNumbers(t *testing.T) {
	for _, w := range legal() {
		for n := range api.MaxBody + 1 {
			if got, err := Size(w.k, w.m, n); got != plainSize(w.k, n) || err != nil {
				t.Fatalf("Size(%d, %d, %d) = %d, %v, want %d", w.k, w.m, n, got, err, plainSize(w.k, n))
			}
		}
		for _, n := range below() {
			if got, err := Size(w.k, w.m, n); got != 0 || err != api.ErrNumber {
				t.Errorf("Size(%d, %d, %d) = %d, %v, want ErrNumber", w.k, w.m, n, got, err)
			}
		}
		for _, n := range above() {
			if got, err := Size(w.k, w.m, n); got != 0 || err != api.ErrLarge {
				t.Errorf("Size(%d, %d, %d) = %d, %v, want ErrLarge", w.k, w.m, n, got, err)
			}
		}
	}
}

// P2.1: Encode gives each shard by the chapter's words, at all legal pairs.
func TestEncode(t *testing.T) {
	r := source()
	for _, w := range legal() {
		for _, n := range someCounts(w.k) {
			data := someBytes(r, n)
			for number, shard := range mustEncode(t, w, data) {
				if want := plainShard(w.k, number, data); !bytes.Equal(shard, want) {
					t.Fatalf("Encode(%d, %d, %d bytes): shard %d is %v, want %v", w.k, w.m, n, number, shard, want)
				}
			}
		}
	}
}

// P2.1: Encode of every number of bytes up to the most, where the last shards are filled with 0s in every way.
func TestEncodeOfAllLengths(t *testing.T) {
	r := source()
	all := someBytes(r, api.MaxBody)
	for _, w := range []width{{1, 1}, {3, 2}, {8, 8}, {15, 1}} {
		for n := range api.MaxBody + 1 {
			data := all[:n]
			for number, shard := range mustEncode(t, w, data)[:w.k] {
				if !bytes.Equal(shard, plainShard(w.k, number, data)) {
					t.Fatalf("Encode(%d, %d, %d bytes): shard %d is %v", w.k, w.m, n, number, shard)
				}
			}
		}
	}
}

// P2.1: Encode of no bytes, nil or empty, is k + m shards without bytes.
func TestEncodeOfNoBytes(t *testing.T) {
	for _, w := range legal() {
		for _, none := range [][]byte{nil, {}, make([]byte, 0, 64)} {
			for number, shard := range mustEncode(t, w, none) {
				if len(shard) != 0 {
					t.Errorf("Encode(%d, %d, no bytes): shard %d is %v", w.k, w.m, number, shard)
				}
			}
		}
	}
}

// P2.1: Encode refuses more than MaxBody bytes, and k and m ahead of them; nothing stands beside an error.
func TestEncodeErrors(t *testing.T) {
	for _, n := range []int{api.MaxBody + 1, api.MaxBody + 2, 4 * api.MaxBody} {
		data := make([]byte, n)
		for _, w := range legal() {
			if shards, err := Encode(w.k, w.m, data); shards != nil || err != api.ErrLarge {
				t.Errorf("Encode(%d, %d, %d bytes) = %v, %v, want ErrLarge", w.k, w.m, n, shards, err)
			}
		}
	}
	for _, w := range illegal() {
		for _, n := range []int{0, 3, api.MaxBody + 1} {
			if shards, err := Encode(w.k, w.m, make([]byte, n)); shards != nil || err != api.ErrParams {
				t.Errorf("Encode(%d, %d, %d bytes) = %v, %v, want ErrParams", w.k, w.m, n, shards, err)
			}
		}
	}
}

// P2.1: the chapter's examples.
func TestExamples(t *testing.T) {
	if size, err := Size(2, 1, 3); size != 2 || err != nil {
		t.Error("Size(2, 1, 3)", size, err)
	}
	if size, err := Size(2, 1, 0); size != 0 || err != nil {
		t.Error("Size(2, 1, 0)", size, err)
	}
	shards := mustEncode(t, width{2, 1}, []byte{5, 7, 9})
	parity := []byte{gf.Add(gf.Mul(142, 5), gf.Mul(244, 9)), gf.Mul(142, 7)}
	for number, want := range [][]byte{{5, 7}, {9, 0}, parity} {
		if !bytes.Equal(shards[number], want) {
			t.Errorf("shard %d is %v, want %v", number, shards[number], want)
		}
	}
	for _, w := range []width{{2, 3}, {0, 0}, {9, 8}} {
		if err := Check(w.k, w.m); err != api.ErrParams {
			t.Errorf("Check(%d, %d) = %v", w.k, w.m, err)
		}
	}
}

// P2.3: the shards of two lists of one length, summed, are those of their sum; and c times them those of c times the list.
func TestEncodeIsLinear(t *testing.T) {
	r := source()
	for _, w := range legal() {
		for _, n := range someCounts(w.k) {
			a, b := someBytes(r, n), someBytes(r, n)
			c := byte(r.Uint32())
			ofA, ofB := mustEncode(t, w, a), mustEncode(t, w, b)
			ofSum, ofScaled := mustEncode(t, w, gf.Sum(a, b)), mustEncode(t, w, gf.Scale(c, a))
			for number := range w.k + w.m {
				if !bytes.Equal(ofSum[number], gf.Sum(ofA[number], ofB[number])) {
					t.Fatalf("shard %d of a sum of %d bytes, k %d, m %d", number, n, w.k, w.m)
				}
				if !bytes.Equal(ofScaled[number], gf.Scale(c, ofA[number])) {
					t.Fatalf("shard %d of %d times %d bytes, k %d, m %d", number, c, n, w.k, w.m)
				}
			}
		}
	}
}

// P2.3: so each byte alone has its shards, and those of all bytes are their sum.
func TestEncodeIsTheSumOfItsBytes(t *testing.T) {
	r := source()
	for _, w := range []width{{1, 1}, {4, 3}, {8, 8}, {15, 1}} {
		data := someBytes(r, 3*w.k+1)
		sums := mustEncode(t, w, make([]byte, len(data)))
		for i, b := range data {
			alone := make([]byte, len(data))
			alone[i] = b
			for number, shard := range mustEncode(t, w, alone) {
				sums[number] = gf.Sum(sums[number], shard)
			}
		}
		for number, shard := range mustEncode(t, w, data) {
			if !bytes.Equal(shard, sums[number]) {
				t.Errorf("shard %d, k %d, m %d, isn't the sum", number, w.k, w.m)
			}
		}
	}
}
