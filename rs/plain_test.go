package rs

import (
	"bytes"
	"math"
	"math/rand/v2"
	"testing"

	"bollard/api"
	"bollard/gf"
)

// plainSize is n / k, rounded up: the least number of which k times as much is enough.
func plainSize(k, n int) int {
	size := 0
	for k*size < n {
		size++
	}
	return size
}

// plainShard is a shard by the words of the chapter, byte by byte.
func plainShard(k, number int, data []byte) []byte {
	size := plainSize(k, len(data))
	at := func(j, i int) byte {
		if place := j*size + i; place < len(data) {
			return data[place]
		}
		return 0
	}
	out := make([]byte, size)
	for i := range out {
		if number < k {
			out[i] = at(number, i)
			continue
		}
		for j := range k {
			inverse, _ := gf.Inv(byte(number ^ j))
			out[i] ^= gf.Mul(inverse, at(j, i))
		}
	}
	return out
}

// width is a pair of k and m.
type width struct{ k, m int }

// legal are all pairs that are legal.
func legal() []width {
	var out []width
	for k := 1; k <= api.MaxWidth; k++ {
		for m := 1; m <= k && k+m <= api.MaxWidth; m++ {
			out = append(out, width{k, m})
		}
	}
	return out
}

// illegal are pairs that aren't, near the edges and at the ends of int.
func illegal() []width {
	good := map[width]int{}
	for _, w := range legal() {
		good[w] = 1
	}
	numbers := []int{math.MinInt, math.MinInt + 1, math.MinInt32, math.MaxInt32, math.MaxInt/2 + 1, math.MaxInt - 15, math.MaxInt - 1, math.MaxInt}
	for n := -3; n <= api.MaxWidth+3; n++ {
		numbers = append(numbers, n)
	}
	var out []width
	for _, k := range numbers {
		for _, m := range numbers {
			if w := (width{k, m}); good[w] == 0 {
				out = append(out, w)
			}
		}
	}
	return out
}

// below and above are numbers of bytes that are none, and too many.
func below() []int { return []int{-1, -2, -1024, math.MinInt32, math.MinInt + 1, math.MinInt} }
func above() []int {
	return []int{api.MaxBody + 1, api.MaxBody + 2, 2 * api.MaxBody, math.MaxInt32, math.MaxInt - 14, math.MaxInt - 1, math.MaxInt}
}

// noShard are numbers of which there is no shard.
func noShard(w width) []int {
	return []int{math.MinInt, -256, -16, -1, w.k + w.m, w.k + w.m + 1, 255, 256, 256 + w.k, math.MaxInt}
}

// source gives the same bytes on every run.
func source() *rand.Rand { return rand.New(rand.NewPCG(2, 285)) }

func someBytes(r *rand.Rand, n int) []byte {
	out := make([]byte, n)
	for i := range out {
		out[i] = byte(r.Uint32())
	}
	return out
}

// mustEncode is Encode where it must answer.
func mustEncode(t *testing.T, w width, data []byte) [][]byte {
	t.Helper()
	shards, err := Encode(w.k, w.m, data)
	if err != nil || len(shards) != w.k+w.m {
		t.Fatalf("Encode(%d, %d, %d bytes): %d shards, %v", w.k, w.m, len(data), len(shards), err)
	}
	return shards
}

// pick is the list of the shards of these numbers.
func pick(shards [][]byte, numbers []int) []api.Shard {
	var out []api.Shard
	for _, number := range numbers {
		out = append(out, api.Shard{Number: number, Bytes: bytes.Clone(shards[number])})
	}
	return out
}

// numbersFrom are k numbers from first on, round the end.
func numbersFrom(w width, first int) []int {
	var out []int
	for i := range w.k {
		out = append(out, (first+i)%(w.k+w.m))
	}
	return out
}

// subsets calls with every choice of k of the numbers below n, rising.
func subsets(n, k int, call func(numbers []int)) {
	for set := range 1 << n {
		var numbers []int
		for i := range n {
			if set>>i&1 == 1 {
				numbers = append(numbers, i)
			}
		}
		if len(numbers) == k {
			call(numbers)
		}
	}
}

// orders calls with the numbers in every order.
func orders(numbers []int, call func(numbers []int)) {
	var place func(at int)
	place = func(at int) {
		if at == len(numbers) {
			call(numbers)
			return
		}
		for i := at; i < len(numbers); i++ {
			numbers[at], numbers[i] = numbers[i], numbers[at]
			place(at + 1)
			numbers[at], numbers[i] = numbers[i], numbers[at]
		}
	}
	place(0)
}
