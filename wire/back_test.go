package wire

import (
	"math/rand/v2"
	"testing"
)

// thing is a call of a writer, and of a reader: of kind 0 a number, 1 a text, 2 a list.
type thing struct {
	kind, number int
	text         string
}

// things are a row of some, with empty ones among them.
func things(r *rand.Rand, n int) []thing {
	out := make([]thing, n)
	for i := range out {
		out[i] = thing{kind: r.IntN(3)}
		if out[i].kind == 0 {
			out[i].number = int(r.Uint64() >> 1 >> r.IntN(64))
		} else {
			out[i].text = string(someBytes(r, r.IntN(3)*r.IntN(100)))
		}
	}
	return out
}

func (x thing) put(w *Writer) {
	switch x.kind {
	case 0:
		w.Num(x.number)
	case 1:
		w.Text(x.text)
	default:
		w.Bytes([]byte(x.text))
	}
}

// read reads a thing of this one's kind and size; false, if it is refused or another one.
func (x thing) read(t *testing.T, r *Reader) bool {
	t.Helper()
	got := x
	var err error
	switch x.kind {
	case 0:
		got.number, err = r.Num(x.number)
	case 1:
		got.text, err = r.Text(len(x.text))
	default:
		var b []byte
		b, err = r.Bytes(len(x.text))
		got.text = string(b)
	}
	if err == nil && got != x {
		t.Fatalf("read back: %d %q, put: %d %q", got.number, got.text, x.number, x.text)
	}
	return err == nil
}

// readAll tells whether the row is read, and then nothing is left.
func readAll(t *testing.T, row []thing, b []byte) bool {
	t.Helper()
	r := NewReader(b)
	for _, x := range row {
		if !x.read(t, r) {
			return false
		}
	}
	return r.End() == nil
}

// P5.2: rows of things are read back by the same calls, and no strict beginning of them is read to its end.
func TestReadBack(t *testing.T) {
	r := source()
	for i := range 300 {
		row := things(r, i%30)
		w := NewWriter()
		for _, x := range row {
			x.put(w)
		}
		b := done(t, w)
		if !readAll(t, row, b) {
			t.Fatal("not read back:", len(row), "things")
		}
		for n := range b {
			if readAll(t, row, b[:n]) {
				t.Fatal(n, "of", len(b), "bytes are read to their end")
			}
		}
		if readAll(t, row, append(b, 0)) {
			t.Fatal("a byte behind isn't told")
		}
	}
}

// P5.2: every number and every text alone, the empty ones too.
func TestReadBackAlone(t *testing.T) {
	var all []thing
	for _, n := range numbers() {
		all = append(all, thing{number: n})
	}
	for _, text := range texts() {
		all = append(all, thing{kind: 1, text: text}, thing{kind: 2, text: text})
	}
	w := NewWriter()
	for _, x := range all {
		one := NewWriter()
		x.put(one)
		x.put(w)
		b := done(t, one)
		if !readAll(t, []thing{x}, b) {
			t.Fatalf("not read back: %d %q", x.number, x.text)
		}
		for n := range min(len(b), 400) {
			if readAll(t, []thing{x}, b[:n]) || readAll(t, []thing{x}, b[:len(b)-1-n]) {
				t.Fatalf("a beginning is read to its end: %d %q", x.number, x.text)
			}
		}
	}
	if !readAll(t, all, done(t, w)) {
		t.Error("not read back one behind the other")
	}
}
