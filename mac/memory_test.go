package mac

import (
	"bytes"
	"slices"
	"testing"
)

// roomy is the list with spare room behind its length, filled with the byte.
func roomy(list []byte, fill byte) []byte {
	return append(bytes.Clone(list), bytes.Repeat([]byte{fill}, 80)...)[:len(list)]
}

func whole(list []byte) []byte { return list[:cap(list)] }

func overwrite(list []byte, fill byte) {
	for i := range whole(list) {
		whole(list)[i] = fill
	}
}

// Rule 4: Sum changes neither list, spare room included, and reads nothing behind their lengths.
func TestSumMemory(t *testing.T) {
	r := source()
	for n := range 140 {
		key, message := someBytes(r, n), someBytes(r, n)
		want := code(key, message)
		for _, fill := range []byte{7, 255} {
			roomyKey, roomyMessage := roomy(key, fill), roomy(message, fill)
			keyBefore, messageBefore := bytes.Clone(whole(roomyKey)), bytes.Clone(whole(roomyMessage))
			got := Sum(roomyKey, roomyMessage)
			if !bytes.Equal(whole(roomyKey), keyBefore) || !bytes.Equal(whole(roomyMessage), messageBefore) {
				t.Fatal("Sum changes what it is handed")
			}
			overwrite(roomyKey, 9)
			overwrite(roomyMessage, 9)
			if !bytes.Equal(got[:], want) {
				t.Fatalf("Sum of %d bytes reads past them, or keeps them: %x", n, got)
			}
			holds(t, key, message)
		}
	}
}

// Rule 4: one list as key and message, and lists that overlap.
func TestSumOfOneList(t *testing.T) {
	r := source()
	for n := range 140 {
		b := someBytes(r, n)
		holds(t, b, b)
		holds(t, b[:n/2], b)
		holds(t, b[n/2:], b[:n/2])
	}
}

// Rule 4: a code that was answered is the caller's own.
func TestCodeMemory(t *testing.T) {
	first := Sum([]byte("k"), []byte("m"))
	overwrite(first[:], 1)
	holds(t, []byte("k"), []byte("m"))
}

// Rule 4: Derive changes no words, and keeps none.
func TestWordsMemory(t *testing.T) {
	row := append(words(), "spare", "room")
	before := slices.Clone(row)
	for n := range len(words()) + 1 {
		got := Derive("s", row[:n]...)
		if !slices.Equal(row, before) {
			t.Fatal("Derive changes the words it is handed")
		}
		for i := range row {
			row[i] = "other"
		}
		if !bytes.Equal(got, derived("s", words()[:n])) {
			t.Fatalf("Derive of %d words keeps them, or reads past them", n)
		}
		copy(row, before)
	}
}

// Rule 4: what Derive answers is new memory, with nothing behind its length.
func TestKeyMemory(t *testing.T) {
	for _, secret := range secrets() {
		for n := range 4 {
			row := words()[:n]
			first, second := Derive(secret, row...), Derive(secret, row...)
			if behind := whole(first)[len(first):]; !bytes.Equal(behind, make([]byte, len(behind))) {
				t.Error("Derive hands out something behind its answer")
			}
			overwrite(first, 9)
			if want := derived(secret, row); !bytes.Equal(second, want) || !bytes.Equal(Derive(secret, row...), want) {
				t.Fatal("two answers of Derive share memory")
			}
		}
	}
}

// Rule 4: Same changes neither list, and reads nothing behind their lengths.
func TestSameMemory(t *testing.T) {
	for _, b := range sames() {
		first, second := roomy(b, 7), roomy(b, 9)
		firstBefore, secondBefore := bytes.Clone(whole(first)), bytes.Clone(whole(second))
		if !Same(first, second) {
			t.Errorf("Same reads past %v", b)
		}
		if Same(first, append(bytes.Clone(b), 7)) || Same(append(bytes.Clone(b), 7), first) {
			t.Errorf("Same reads past %v, where the other has more", b)
		}
		if !bytes.Equal(whole(first), firstBefore) || !bytes.Equal(whole(second), secondBefore) {
			t.Error("Same changes what it is handed")
		}
	}
}
