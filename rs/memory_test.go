package rs

import (
	"bytes"
	"slices"
	"testing"

	"bollard/api"
)

const spare = 16

// roomy is the list with spare room behind its length, filled with the byte.
func roomy(list []byte, fill byte) []byte {
	out := append(bytes.Clone(list), bytes.Repeat([]byte{fill}, spare)...)
	return out[:len(list)]
}

// overwrite fills the list and the room behind it.
func overwrite(list []byte, fill byte) {
	list = list[:cap(list)]
	for i := range list {
		list[i] = fill
	}
}

// clean asks that nothing lies behind the list's length.
func clean(t *testing.T, what string, list []byte) {
	t.Helper()
	if behind := list[len(list):cap(list)]; !bytes.Equal(behind, make([]byte, len(behind))) {
		t.Errorf("%s hands out what lies behind a list's length", what)
	}
}

// Rule 4: Encode neither changes nor keeps its data, and its shards share no memory.
func TestEncodeMemory(t *testing.T) {
	r := source()
	for _, w := range legal() {
		for _, n := range someCounts(w.k) {
			before := someBytes(r, n)
			want := mustEncode(t, w, before)
			data := roomy(before, 171)
			shards := mustEncode(t, w, data)
			if !bytes.Equal(data[:n+spare], roomy(before, 171)[:n+spare]) {
				t.Fatal("Encode changes what it is handed")
			}
			overwrite(data, 3)
			for number := range shards {
				if !bytes.Equal(shards[number], want[number]) {
					t.Fatalf("shard %d reads the spare room, shares memory with the data, or with another shard", number)
				}
				clean(t, "Encode", shards[number])
				overwrite(shards[number], 9)
			}
			again := mustEncode(t, w, before)
			overwriteLists(shards[:cap(shards)])
			if !slices.EqualFunc(again, want, bytes.Equal) {
				t.Fatal("Encode hangs on an earlier call")
			}
		}
	}
}

// overwriteLists fills the lists, and takes them out of the list of lists.
func overwriteLists(lists [][]byte) {
	for i := range lists {
		overwrite(lists[i], 11)
		lists[i] = nil
	}
}

// roomyList is the list with spare room behind it and behind each shard's bytes.
func roomyList(list []api.Shard) []api.Shard {
	var out []api.Shard
	for i, shard := range list {
		out = append(out, api.Shard{Number: shard.Number, Bytes: roomy(shard.Bytes, byte(171+i))})
	}
	return append(out, api.Shard{Number: -7, Bytes: []byte{1, 2, 3}}, api.Shard{Number: 0})[:len(list)]
}

// sameShard holds shards against each other, the room behind their bytes included.
func sameShard(a, b api.Shard) bool {
	return a.Number == b.Number && bytes.Equal(a.Bytes[:cap(a.Bytes)], b.Bytes[:cap(b.Bytes)])
}

// calls are Decode, and Rebuild of a data shard and of a parity shard, of the first ones and the last ones.
func calls(w width, n int) map[string]func([]api.Shard) ([]byte, error) {
	out := map[string]func([]api.Shard) ([]byte, error){
		"Decode": func(list []api.Shard) ([]byte, error) { return Decode(w.k, w.m, n, list) },
	}
	for name, number := range map[string]int{"Rebuild of the first": 0, "Rebuild of the last data shard": w.k - 1, "Rebuild of the first parity": w.k, "Rebuild of the last": w.k + w.m - 1} {
		out[name] = func(list []api.Shard) ([]byte, error) { return Rebuild(w.k, w.m, n, list, number) }
	}
	return out
}

// Rule 4: Decode and Rebuild neither change nor keep what they are handed, and answer new memory.
func TestDecodeAndRebuildMemory(t *testing.T) {
	r := source()
	for _, w := range legal() {
		for _, n := range []int{0, 1, w.k, 3*w.k - 1, 3 * w.k} {
			shards := mustEncode(t, w, someBytes(r, n))
			for _, first := range []int{0, 1, w.m, w.k} {
				plain := pick(shards, numbersFrom(w, first))
				for name, call := range calls(w, n) {
					memoryOf(t, name, plain, call)
				}
			}
		}
	}
}

// memoryOf asks that the call only reads the list, and keeps nothing of it.
func memoryOf(t *testing.T, name string, plain []api.Shard, call func([]api.Shard) ([]byte, error)) {
	t.Helper()
	want, _ := call(plain)
	list, before := roomyList(plain), roomyList(plain)
	got, err := call(list)
	if err != nil || !bytes.Equal(got, want) {
		t.Fatalf("%s reads the spare room: %v, %v, want %v", name, got, err, want)
	}
	if !slices.EqualFunc(list[:cap(list)], before[:cap(before)], sameShard) {
		t.Fatalf("%s changes what it is handed, or the room behind it", name)
	}
	clean(t, name, got)
	for i := range list {
		overwrite(list[i].Bytes, 5)
		list[i].Number = -1
	}
	if !bytes.Equal(got, want) {
		t.Fatalf("%s shares memory with what it was handed", name)
	}
	overwrite(got, 9)
	if again, err := call(plain); err != nil || !bytes.Equal(again, want) {
		t.Fatalf("%s hangs on an earlier call", name)
	}
}

// Rule 4: a refused call has changed nothing either.
func TestRefusedCallsChangeNothing(t *testing.T) {
	w := width{4, 3}
	data := someBytes(source(), 10)
	shards := mustEncode(t, w, data)
	for _, bad := range badLists(w, shards) {
		list := bad.list
		before := make([]api.Shard, len(list))
		for i, shard := range list {
			before[i] = api.Shard{Number: shard.Number, Bytes: bytes.Clone(shard.Bytes)}
		}
		Decode(w.k, w.m, len(data), list)
		Rebuild(w.k, w.m, len(data), list, 5)
		for i := range list {
			if list[i].Number != before[i].Number || !bytes.Equal(list[i].Bytes, before[i].Bytes) {
				t.Errorf("%s: a refused call changes what it is handed", bad.why)
			}
		}
	}
}

// Rule 4: shards that lie in one memory, one behind the other or the same bytes, are only read.
func TestShardsThatShareMemory(t *testing.T) {
	w := width{3, 2}
	data := someBytes(source(), 9)
	whole := bytes.Join(mustEncode(t, w, data), nil)
	before := bytes.Clone(whole)
	at := func(number int) api.Shard { return api.Shard{Number: number, Bytes: whole[3*number : 3*number+3]} }
	list := []api.Shard{at(4), at(1), at(3)}
	mustDecode(t, w, list, data)
	mustRebuild(t, w, 9, list, 0, before[:3])
	if !bytes.Equal(whole, before) {
		t.Error("shards in one memory are changed")
	}
	same := []byte{7, 8, 9}
	list = []api.Shard{{Number: 0, Bytes: same}, {Number: 1, Bytes: same}, {Number: 2, Bytes: same}}
	mustDecode(t, w, list, []byte{7, 8, 9, 7, 8, 9, 7, 8, 9})
}
