package wire

import (
	"bytes"
	"testing"
)

// roomy is the list with spare room behind its length, filled with the byte.
func roomy(list []byte, fill byte) []byte {
	return append(bytes.Clone(list), bytes.Repeat([]byte{fill}, 40)...)[:len(list)]
}

func whole(list []byte) []byte { return list[:cap(list)] }

func overwrite(list []byte, fill byte) {
	for i := range whole(list) {
		whole(list)[i] = fill
	}
}

// clean asks that nothing is handed out behind a list's length.
func clean(t *testing.T, list []byte) {
	t.Helper()
	if behind := whole(list)[len(list):]; !bytes.Equal(behind, make([]byte, len(behind))) {
		t.Fatal("something is handed out behind an answer")
	}
}

// Rule 4: a writer neither changes nor keeps the list that is put, and reads nothing behind it.
func TestPutMemory(t *testing.T) {
	for _, text := range texts() {
		w := NewWriter()
		list := roomy([]byte(text), 7)
		before := bytes.Clone(whole(list))
		w.Bytes(list)
		w.Num(300)
		w.Bytes(list)
		got := done(t, w)
		if !bytes.Equal(whole(list), before) {
			t.Fatal("Bytes changes what it is handed")
		}
		overwrite(list, 9)
		want := append(append(plainPiece(text), plain(300)...), plainPiece(text)...)
		if !bytes.Equal(got, want) || !bytes.Equal(done(t, w), want) {
			t.Fatal("a writer keeps what it is handed, or reads past it")
		}
	}
}

// Rule 4: what Done answers is new memory: neither another answer's nor what is put later shares it.
func TestDoneMemory(t *testing.T) {
	w := NewWriter()
	var want []byte
	var answers, wants [][]byte
	for i := range 300 {
		w.Num(i)
		want = append(want, plain(i)...)
		first, second := done(t, w), done(t, w)
		clean(t, first)
		overwrite(first, 1)
		if !bytes.Equal(second, want) {
			t.Fatal("two answers of Done share memory")
		}
		_ = append(second, 2, 3, 4)
		answers, wants = append(answers, second), append(wants, bytes.Clone(want))
	}
	if !bytes.Equal(done(t, w), want) {
		t.Fatal("an answer of Done shares the writer's memory")
	}
	for i, got := range answers {
		if !bytes.Equal(got, wants[i]) {
			t.Fatal("what is put later shares an answer's memory")
		}
	}
}

// Rule 4: a reader neither changes nor keeps the bytes that it is made of, and reads nothing behind them.
func TestReaderMemory(t *testing.T) {
	list := roomy(append(plain(300), plainPiece("abc")...), 1)
	before := bytes.Clone(whole(list))
	r := NewReader(list)
	if !bytes.Equal(whole(list), before) {
		t.Fatal("NewReader changes what it is handed")
	}
	overwrite(list, 9)
	if n, err := r.Num(300); n != 300 || err != nil {
		t.Fatal("a reader keeps its bytes:", n, err)
	}
	if text, err := r.Text(3); text != "abc" || err != nil {
		t.Fatal("a reader keeps its bytes:", text, err)
	}
	stands(t, r, 0)
	readsNum(t, r, nil, 9)
	if !bytes.Equal(whole(list), bytes.Repeat([]byte{9}, cap(list))) {
		t.Fatal("a reader changes the bytes that it was made of")
	}
}

// Rule 4: a number or a text that is cut off isn't read on in the room behind.
func TestReadsNotBehind(t *testing.T) {
	for _, text := range texts()[1:] {
		full := plainPiece(text)
		for _, n := range []int{0, 1, len(full) - 1} {
			for _, fill := range []byte{0, 1, 255} {
				readsAll(t, roomy(full[:n], fill), len(text))
			}
			readsAll(t, full[:n], len(text))
		}
	}
}

// Rule 4: lists that are read are new memory: neither the reader's, nor one another's, with nothing behind.
func TestReadMemory(t *testing.T) {
	w := NewWriter()
	for _, text := range texts() {
		w.Bytes([]byte(text))
	}
	r, again := NewReader(done(t, w)), NewReader(done(t, w))
	var lists [][]byte
	for _, text := range texts() {
		got, err := r.Bytes(len(text))
		if err != nil || string(got) != text {
			t.Fatal("a list that was read shares memory:", err)
		}
		clean(t, got)
		overwrite(got, 255)
		kept, err := again.Bytes(len(text))
		if err != nil {
			t.Fatal(err)
		}
		lists = append(lists, kept)
		_ = append(kept, 255, 255)
	}
	for i, text := range texts() {
		if string(lists[i]) != text {
			t.Fatal("what is read later shares an answer's memory")
		}
	}
}

// Rule 4: readers of the same bytes have each its own place and memory.
func TestReadersApart(t *testing.T) {
	b := append(plainPiece("abc"), plainPiece("de")...)
	first, second := NewReader(b), NewReader(b)
	got, err := first.Bytes(3)
	if err != nil {
		t.Fatal(err)
	}
	overwrite(got, 0)
	stands(t, first, 3)
	stands(t, second, 7)
	readsBytes(t, second, b, 3)
	if !bytes.Equal(b, append(plainPiece("abc"), plainPiece("de")...)) {
		t.Fatal("a reader hands out the bytes that it was made of")
	}
}

// Rule 4: Sum, Seal and Open change nothing, read nothing behind, and answer new memory.
func TestSealMemory(t *testing.T) {
	for _, b := range sums() {
		list := roomy(b, 7)
		before := bytes.Clone(whole(list))
		sealed := Seal(list)
		if Sum(list) != plainSum(b) || !bytes.Equal(whole(list), before) {
			t.Fatal("Sum or Seal reads past a list, or changes it")
		}
		clean(t, sealed)
		overwrite(list, 9)
		if !bytes.Equal(sealed, Seal(b)) {
			t.Fatal("Seal shares memory with what it is handed")
		}
		overwrite(sealed, 9)
		if !bytes.Equal(whole(list), bytes.Repeat([]byte{9}, cap(list))) {
			t.Fatal("Seal shares memory with what it is handed")
		}
	}
}

func TestOpenMemory(t *testing.T) {
	for _, b := range sums() {
		sealed := roomy(Seal(b), 7)
		before := bytes.Clone(whole(sealed))
		first, err := Open(sealed)
		if err != nil || !bytes.Equal(whole(sealed), before) {
			t.Fatal("Open reads past a list, or changes it:", err)
		}
		clean(t, first)
		_ = append(first, 1, 2, 3, 4, 5)
		overwrite(first, 9)
		second, err := Open(sealed)
		if err != nil || !bytes.Equal(second, b) {
			t.Fatal("Open hands out what it was handed:", err)
		}
		overwrite(sealed, 9)
		if !bytes.Equal(second, b) {
			t.Fatal("Open keeps what it was handed")
		}
	}
}
