package frame

import (
	"bollard/api"
	"bytes"
	"testing"
)

// roomy is the list with spare room behind its length, filled with the byte.
func roomy(list []byte, fill byte) []byte {
	return append(bytes.Clone(list), bytes.Repeat([]byte{fill}, 80)...)[:len(list)]
}

func whole(list []byte) []byte { return list[:cap(list)] }

func overwrite(list []byte, fill byte) {
	for i := range whole(list) {
		whole(list)[i] = fill
	}
}

func filled(list []byte, fill byte) bool {
	return bytes.Equal(whole(list), bytes.Repeat([]byte{fill}, cap(list)))
}

// clean asks that nothing is handed out behind a list's length.
func clean(t *testing.T, list []byte) {
	t.Helper()
	if behind := whole(list)[len(list):]; !bytes.Equal(behind, make([]byte, len(behind))) {
		t.Fatal("something is handed out behind an answer")
	}
}

// Rule 4: Put changes nothing, reads nothing behind, and answers new memory.
func TestPutMemory(t *testing.T) {
	for _, size := range sizes() {
		shard := someBytes(source(), size)
		list := roomy(shard, 7)
		before := bytes.Clone(whole(list))
		first, second := put(t, someStamp(), list), put(t, someStamp(), list)
		if !bytes.Equal(whole(list), before) {
			t.Fatal("Put changes what it is handed")
		}
		clean(t, first)
		overwrite(list, 9)
		if !bytes.Equal(first, plainFrame(someStamp(), shard)) {
			t.Fatal("Put reads past what it is handed, or shares its memory")
		}
		overwrite(first, 8)
		if !filled(list, 9) || !bytes.Equal(second, plainFrame(someStamp(), shard)) {
			t.Fatal("what Put answers shares memory")
		}
	}
}

// Rule 4: Get and Head change nothing, and Get answers new memory.
func TestGetMemory(t *testing.T) {
	for _, size := range sizes() {
		shard := someBytes(source(), size)
		f := roomy(plainFrame(someStamp(), shard), 7)
		before := bytes.Clone(whole(f))
		takesHead(t, f, someStamp(), size)
		_, first, err := Get(f)
		if err != nil || !bytes.Equal(whole(f), before) {
			t.Fatal("Get or Head changes what it is handed:", err)
		}
		clean(t, first)
		overwrite(first, 8)
		_, second, err := Get(f)
		if err != nil || !bytes.Equal(second, shard) || !bytes.Equal(whole(f), before) {
			t.Fatal("what Get answers shares memory:", err)
		}
		overwrite(f, 9)
		if !bytes.Equal(second, shard) {
			t.Fatal("what Get answers shares the frame's memory")
		}
	}
}

// Rule 4: Get and Head read nothing behind a frame's length, though the rest of it stands there.
func TestReadsNotBehind(t *testing.T) {
	shard := someBytes(source(), 70)
	f := put(t, someStamp(), shard)
	for n := range f {
		cut := bytes.Clone(f)[:n]
		if n < 12 {
			refusesHead(t, cut, api.ErrBytes)
		} else {
			refusesGet(t, cut, api.ErrBytes)
		}
		if !bytes.Equal(cut[:len(f)], f) {
			t.Fatal("Get or Head changes what lies behind")
		}
	}
	takesGet(t, roomy(f, 0), someStamp(), shard)
}

// Rule 4: a refused call changes nothing of what it is handed.
func TestRefusedMemory(t *testing.T) {
	f := put(t, someStamp(), []byte("ab"))
	for i := range f {
		f[i] ^= 64
		list := roomy(f, 7)
		before := bytes.Clone(whole(list))
		if _, _, err := Get(list); err == nil || !bytes.Equal(whole(list), before) {
			t.Fatal("a refused Get:", err)
		}
		f[i] ^= 64
	}
	shard := roomy(make([]byte, 1025), 7)
	refusesPut(t, someStamp(), shard, api.ErrLarge)
	refusesPut(t, api.Stamp{Shard: 16}, shard, api.ErrNumber)
	if !bytes.Equal(whole(shard)[:1105], append(make([]byte, 1025), bytes.Repeat([]byte{7}, 80)...)) {
		t.Fatal("a refused Put changes what it is handed")
	}
}

// Rules 4 and 9: Blocks goes over what stood when it was called.
func TestBlocksKeep(t *testing.T) {
	for _, size := range sizes() {
		b := someBytes(source(), size)
		list := roomy(b, 7)
		before := bytes.Clone(whole(list))
		blocks := Blocks(list)
		goesOver(t, blocks, b)
		if !bytes.Equal(whole(list), before) {
			t.Fatal("Blocks changes what it is handed")
		}
		overwrite(list, 9)
		goesOver(t, blocks, b)
		if !filled(list, 9) {
			t.Fatal("Blocks changes what it was handed")
		}
	}
}

// Rule 4: blocks are new memory: neither what was handed in, nor one another's, nor those of another going over.
func TestBlocksMemory(t *testing.T) {
	for _, size := range sizes() {
		b := someBytes(source(), size)
		list := roomy(b, 7)
		before := bytes.Clone(whole(list))
		blocks := Blocks(list)
		var kept [][]byte
		for _, block := range blocks {
			clean(t, block)
			kept = append(kept, block)
		}
		for _, block := range blocks {
			overwrite(block, 8)
		}
		goesOver(t, blocks, b)
		for i, block := range kept {
			if !bytes.Equal(block, b[32*i:min(32*i+32, size)]) {
				t.Fatal("blocks share memory")
			}
			overwrite(block, byte(i))
		}
		for i, block := range kept {
			if !filled(block, byte(i)) {
				t.Fatal("two blocks share memory")
			}
		}
		if !bytes.Equal(whole(list), before) {
			t.Fatal("blocks share the memory of what was handed in")
		}
		goesOver(t, blocks, b)
	}
}
