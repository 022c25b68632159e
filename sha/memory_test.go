package sha

import (
	"bytes"
	"testing"
)

// roomy is the list with spare room behind its length, filled with the byte.
func roomy(list []byte, fill byte) []byte {
	return append(bytes.Clone(list), bytes.Repeat([]byte{fill}, 80)...)[:len(list)]
}

func whole(list []byte) []byte { return list[:cap(list)] }

func overwrite(list []byte, fill byte) {
	for i := range whole(list) {
		whole(list)[i] = fill
	}
}

// Rule 4: what is handed in is neither changed nor kept, and what lies behind its length isn't read.
func TestWriteMemory(t *testing.T) {
	r := source()
	for n := range 200 {
		b := someBytes(r, n)
		list := roomy(b, 7)
		before := bytes.Clone(whole(list))
		h := New()
		h.Write(list)
		holds(t, "Sum", Sum(list), b)
		holds(t, "Sum of a hash", h.Sum(), b)
		if !bytes.Equal(whole(list), before) {
			t.Fatal("Write or Sum changes what it is handed")
		}
		overwrite(list, 9)
		holds(t, "Sum of a hash whose piece was overwritten", h.Sum(), b)
		h.Write(list)
		holds(t, "Sum of a hash that goes on", h.Sum(), append(b, list...))
	}
}

// Rule 4: one list, overwritten between Writes, as a reader does that takes one piece after the other.
func TestOneListForAllPieces(t *testing.T) {
	r := source()
	list := make([]byte, 48)
	h := &hashed{hash: New()}
	for range 100 {
		piece := list[:r.IntN(len(list)+1)]
		copy(piece, someBytes(r, len(piece)))
		h.write(piece)
		h.check(t)
	}
}

// Rule 4: a digest that was answered is the caller's own.
func TestSumMemory(t *testing.T) {
	h := New()
	h.Write([]byte("abc"))
	sum := h.Sum()
	overwrite(sum[:], 1)
	holds(t, "Sum", h.Sum(), []byte("abc"))
}

// Rule 4: Hex only reads, and not past the length.
func TestHexMemory(t *testing.T) {
	b := []byte{0, 1, 254, 255}
	list := roomy(b, 7)
	before := bytes.Clone(whole(list))
	s := Hex(list)
	if !bytes.Equal(whole(list), before) {
		t.Error("Hex changes what it is handed")
	}
	overwrite(list, 9)
	if s != "0001feff" {
		t.Error("Hex keeps what it is handed, or reads past it:", s)
	}
}

// Rule 4: what Unhex answers is new memory, with nothing behind its length.
func TestUnhexMemory(t *testing.T) {
	for n := range 100 {
		want := someBytes(source(), n)
		s := Hex(want)
		first, _ := Unhex(s)
		second, _ := Unhex(s)
		if behind := whole(first)[n:]; !bytes.Equal(behind, make([]byte, len(behind))) {
			t.Error("Unhex hands out something behind its answer")
		}
		overwrite(first, 9)
		if !bytes.Equal(second, want) {
			t.Fatal("two answers of Unhex share memory")
		}
	}
}
