package rs

import (
	"bytes"
	"slices"
	"testing"

	"bollard/api"
)

// mustDecode is Decode where it must give the data.
func mustDecode(t *testing.T, w width, list []api.Shard, data []byte) {
	t.Helper()
	got, err := Decode(w.k, w.m, len(data), list)
	if err != nil || !bytes.Equal(got, data) {
		t.Fatalf("Decode(%d, %d, %d, %v) = %v, %v, want %v", w.k, w.m, len(data), list, got, err, data)
	}
}

// mustRebuild is Rebuild where it must give the shard.
func mustRebuild(t *testing.T, w width, n int, list []api.Shard, number int, want []byte) {
	t.Helper()
	got, err := Rebuild(w.k, w.m, n, list, number)
	if err != nil || !bytes.Equal(got, want) {
		t.Fatalf("Rebuild(%d, %d, %d, %v, %d) = %v, %v, want %v", w.k, w.m, n, list, number, got, err, want)
	}
}

// P2.2: every choice of k shards, at all legal pairs, in some order; Rebuild gives each shard (of the widest, one a choice).
func TestAnyShardsAreEnough(t *testing.T) {
	r := source()
	for _, w := range legal() {
		data := someBytes(r, 2*w.k+1)
		shards := mustEncode(t, w, data)
		choice := 0
		subsets(w.k+w.m, w.k, func(numbers []int) {
			r.Shuffle(w.k, func(i, j int) { numbers[i], numbers[j] = numbers[j], numbers[i] })
			list := pick(shards, numbers)
			mustDecode(t, w, list, data)
			for number, shard := range shards {
				if w.k+w.m <= 9 || number == choice%(w.k+w.m) {
					mustRebuild(t, w, len(data), list, number, shard)
				}
			}
			choice++
		})
	}
}

// P2.2: every order of every choice, at the narrow pairs.
func TestAnyOrderIsGood(t *testing.T) {
	r := source()
	for _, w := range legal() {
		if w.k > 4 {
			continue
		}
		data := someBytes(r, 3*w.k-1)
		shards := mustEncode(t, w, data)
		subsets(w.k+w.m, w.k, func(numbers []int) {
			orders(numbers, func(numbers []int) {
				list := pick(shards, numbers)
				mustDecode(t, w, list, data)
				for number, shard := range shards {
					mustRebuild(t, w, len(data), list, number, shard)
				}
			})
		})
	}
}

// P2.2: all numbers of bytes that lie at an edge, from shards of which as many as can be are parity.
func TestAllLengthsComeBack(t *testing.T) {
	r := source()
	for _, w := range legal() {
		for _, n := range someCounts(w.k) {
			data := someBytes(r, n)
			shards := mustEncode(t, w, data)
			for _, first := range []int{0, 1, w.m, w.k} {
				list := pick(shards, numbersFrom(w, first))
				mustDecode(t, w, list, data)
				slices.Reverse(list)
				mustDecode(t, w, list, data)
				mustRebuild(t, w, n, list, 0, shards[0])
				mustRebuild(t, w, n, list, w.k+w.m-1, shards[w.k+w.m-1])
			}
		}
	}
}

// P2.1: of no bytes there are k shards too, nil or empty.
func TestNoBytesNeedShards(t *testing.T) {
	for _, w := range legal() {
		list := pick(mustEncode(t, w, nil), numbersFrom(w, w.m))
		for i := range list {
			list[i].Bytes = [][]byte{nil, {}, make([]byte, 0, 4)}[i%3]
		}
		mustDecode(t, w, list, nil)
		mustRebuild(t, w, 0, list, w.k, nil)
		for _, few := range [][]api.Shard{nil, {}, list[1:]} {
			refused(t, w.k, w.m, 0, few, 0, api.ErrData, api.ErrData)
		}
	}
}

// P2.1: what the shards hold behind the last byte is no part of the blob, whose shards have 0s there.
func TestBytesBehindTheBlob(t *testing.T) {
	list := []api.Shard{{Number: 0, Bytes: []byte{5, 7}}, {Number: 1, Bytes: []byte{9, 200}}}
	w, data := width{2, 1}, []byte{5, 7, 9}
	mustDecode(t, w, list, data)
	for number := range 3 {
		mustRebuild(t, w, 3, list, number, plainShard(2, number, data))
	}
	got, err := Decode(2, 1, 3, list)
	if err != nil || slices.Contains(got[:cap(got)], 200) {
		t.Error("Decode hands out what lies behind the blob", got[:cap(got)], err)
	}
}

// refused asks that Decode and Rebuild answer these errors, and nothing beside them.
func refused(t *testing.T, k, m, n int, list []api.Shard, number int, ofDecode, ofRebuild error) {
	t.Helper()
	if got, err := Decode(k, m, n, list); got != nil || err != ofDecode {
		t.Errorf("Decode(%d, %d, %d, %v) = %v, %v, want %v", k, m, n, list, got, err, ofDecode)
	}
	if got, err := Rebuild(k, m, n, list, number); got != nil || err != ofRebuild {
		t.Errorf("Rebuild(%d, %d, %d, %v, %d) = %v, %v, want %v", k, m, n, list, number, got, err, ofRebuild)
	}
}

// badList is a list that is not k shards of a blob, and why.
type badList struct {
	why  string
	list []api.Shard
}

// badLists are lists of every kind that is no k shards of that blob, the wrong shard at each place.
func badLists(w width, shards [][]byte) []badList {
	good := func() []api.Shard { return pick(shards, numbersFrom(w, w.m)) }
	out := []badList{
		{"none", nil},
		{"one too few", good()[1:]},
		{"one too many", append(good(), pick(shards, []int{w.m - 1})...)},
		{"one doubled", append(good(), good()[0])},
		{"all", pick(shards, allNumbers(w))},
		{"each twice", append(good(), good()...)},
	}
	for at := range w.k {
		for _, number := range noShard(w) {
			list := good()
			list[at].Number = number
			out = append(out, badList{"a Number that is none", list})
		}
		for _, wrong := range wrongBytes(len(shards[0])) {
			list := good()
			list[at].Bytes = wrong
			out = append(out, badList{"a shard that hasn't the size", list})
		}
		for other := range at {
			list := good()
			list[at].Number = list[other].Number
			out = append(out, badList{"a Number twice, with other bytes", list})
			list = good()
			list[at] = good()[other]
			out = append(out, badList{"a shard twice", list})
		}
	}
	return out
}

// wrongBytes are lists that haven't the size, one with room for it.
func wrongBytes(size int) [][]byte {
	return [][]byte{nil, make([]byte, size-1), make([]byte, size-1, size+8), make([]byte, size+1), make([]byte, 4*api.MaxBody)}
}

func allNumbers(w width) []int {
	var out []int
	for number := range w.k + w.m {
		out = append(out, number)
	}
	return out
}

// P2.1: ErrData for each kind of a list that isn't k shards.
func TestWrongLists(t *testing.T) {
	for _, w := range legal() {
		data := someBytes(source(), 2*w.k+1)
		for _, bad := range badLists(w, mustEncode(t, w, data)) {
			t.Run(bad.why, func(t *testing.T) {
				refused(t, w.k, w.m, len(data), bad.list, w.k, api.ErrData, api.ErrData)
			})
		}
	}
}

// P2.1: the numbers come ahead of too many bytes, and these ahead of a wrong list.
func TestErrorsInTheirOrder(t *testing.T) {
	for _, w := range legal() {
		data := someBytes(source(), 2*w.k+1)
		shards := mustEncode(t, w, data)
		good := pick(shards, numbersFrom(w, w.m))
		for _, list := range [][]api.Shard{good, nil, good[1:], {{Number: -1}}} {
			for _, none := range below() {
				refused(t, w.k, w.m, none, list, w.k, api.ErrNumber, api.ErrNumber)
			}
			for _, large := range above() {
				refused(t, w.k, w.m, large, list, w.k, api.ErrLarge, api.ErrLarge)
			}
			for _, number := range noShard(w) {
				for _, none := range below() {
					refused(t, w.k, w.m, none, list, number, api.ErrNumber, api.ErrNumber)
				}
				for _, large := range above() {
					refused(t, w.k, w.m, large, list, number, api.ErrLarge, api.ErrNumber)
				}
				if got, err := Rebuild(w.k, w.m, len(data), list, number); got != nil || err != api.ErrNumber {
					t.Errorf("Rebuild(%d, %d, %d, .., %d) = %v, %v, want ErrNumber", w.k, w.m, len(data), number, got, err)
				}
			}
		}
	}
}

// P2.1: k and m that aren't legal come ahead of everything.
func TestParamsComeFirst(t *testing.T) {
	good := []api.Shard{{Number: 0, Bytes: []byte{1}}, {Number: 1, Bytes: []byte{2}}}
	for _, w := range illegal() {
		for _, n := range []int{-1, 0, 2, api.MaxBody, api.MaxBody + 1} {
			if size, err := Size(w.k, w.m, n); size != 0 || err != api.ErrParams {
				t.Errorf("Size(%d, %d, %d) = %d, %v", w.k, w.m, n, size, err)
			}
			for _, list := range [][]api.Shard{nil, good} {
				refused(t, w.k, w.m, n, list, 0, api.ErrParams, api.ErrParams)
				refused(t, w.k, w.m, n, list, -1, api.ErrParams, api.ErrParams)
			}
		}
	}
}

// P2.1: the shards of one blob haven't the size of another, but of each that has as many bytes a shard.
func TestOtherNumbersOfBytes(t *testing.T) {
	w, data := width{4, 3}, someBytes(source(), 10)
	list := pick(mustEncode(t, w, data), numbersFrom(w, 2))
	for _, n := range []int{0, 1, 7, 8, 13, 14, api.MaxBody} {
		refused(t, w.k, w.m, n, list, 0, api.ErrData, api.ErrData)
	}
	padded := append(data, 0, 0)
	for n := 9; n <= 12; n++ {
		mustDecode(t, w, list, padded[:n])
		mustRebuild(t, w, n, list, 5, plainShard(w.k, 5, padded[:n]))
	}
}
