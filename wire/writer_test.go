package wire

import (
	"bollard/api"
	"bytes"
	"math/rand/v2"
	"testing"
)

// P5.1: the chapter's examples.
func TestExamples(t *testing.T) {
	for n, want := range map[int]string{0: "\x00", 127: "\x7f", 128: "\x80\x01", 300: "\xac\x02"} {
		w := NewWriter()
		w.Num(n)
		if got := done(t, w); string(got) != want {
			t.Errorf("Num of %d: %x", n, got)
		}
	}
	w := NewWriter()
	w.Text("ab")
	if got := done(t, w); string(got) != "\x02ab" {
		t.Errorf("Text of ab: %x", got)
	}
	if n, err := NewReader([]byte{0x80, 0}).Num(1000); n != 0 || err != api.ErrBytes {
		t.Error("Num of 80 00:", n, err)
	}
}

// P5.1: an empty writer gives no bytes, and isn't spoilt.
func TestNewWriter(t *testing.T) {
	if got := done(t, NewWriter()); len(got) != 0 {
		t.Errorf("Done of an empty writer: %x", got)
	}
}

// P5.1: numbers of every length, of one byte to nine.
func TestWriteNum(t *testing.T) {
	lengths := map[int]int{}
	all := NewWriter()
	var want []byte
	for _, n := range numbers() {
		w := NewWriter()
		w.Num(n)
		all.Num(n)
		got := done(t, w)
		if !bytes.Equal(got, plain(n)) {
			t.Errorf("Num of %d: %x, want %x", n, got, plain(n))
		}
		lengths[len(got)]++
		want = append(want, plain(n)...)
	}
	if len(lengths) != 9 || lengths[9] == 0 {
		t.Error("lengths of numbers:", lengths)
	}
	if !bytes.Equal(done(t, all), want) {
		t.Error("numbers one behind the other")
	}
}

// P5.1: texts and lists of every kind, which are the same bytes.
func TestWriteTexts(t *testing.T) {
	all := NewWriter()
	var want []byte
	for _, text := range texts() {
		asText, asBytes := NewWriter(), NewWriter()
		asText.Text(text)
		asBytes.Bytes([]byte(text))
		if got := done(t, asText); !bytes.Equal(got, plainPiece(text)) {
			t.Errorf("Text of %d bytes: %x..", len(text), got[:3])
		}
		if got := done(t, asBytes); !bytes.Equal(got, plainPiece(text)) {
			t.Errorf("Bytes of %d bytes: %x..", len(text), got[:3])
		}
		all.Text(text)
		all.Bytes([]byte(text))
		want = append(append(want, plainPiece(text)...), plainPiece(text)...)
	}
	if !bytes.Equal(done(t, all), want) {
		t.Error("texts one behind the other")
	}
}

// P5.1: nil is a list of no bytes, and one is put for each.
func TestWriteNil(t *testing.T) {
	w := NewWriter()
	w.Bytes(nil)
	w.Bytes([]byte{})
	w.Text("")
	if got := done(t, w); string(got) != "\x00\x00\x00" {
		t.Errorf("nil, a list and a text of no bytes: %x", got)
	}
}

// P5.1: Done is all that was put so far, asked ever again, and the writer goes on behind it.
func TestDoneGoesOn(t *testing.T) {
	w := NewWriter()
	var want []byte
	for i := range 200 {
		w.Num(i)
		want = append(want, plain(i)...)
		for range 2 {
			if got := done(t, w); !bytes.Equal(got, want) {
				t.Fatalf("Done behind %d numbers: %x", i+1, got)
			}
		}
	}
}

// spoilt asks that Done refuses, and with it answers nothing.
func spoilt(t *testing.T, w *Writer) {
	t.Helper()
	if b, err := w.Done(); b != nil || err != api.ErrNumber {
		t.Fatal("Done of a spoilt writer:", b, err)
	}
}

// P5.1: a number below 0 spoils a writer, whatever stands ahead of it and whatever is put behind.
func TestSpoilt(t *testing.T) {
	for _, bad := range negatives() {
		for ahead := range 4 {
			w := NewWriter()
			for i := range ahead {
				w.Num(i)
				w.Text("ahead")
				done(t, w)
			}
			w.Num(bad)
			spoilt(t, w)
			spoilt(t, w)
			for _, n := range numbers() {
				w.Num(n)
				spoilt(t, w)
			}
			w.Text("behind")
			spoilt(t, w)
			w.Bytes(nil)
			spoilt(t, w)
			w.Num(bad)
			spoilt(t, w)
			w.Num(-bad)
			spoilt(t, w)
		}
	}
}

// P5.1: a writer that is spoilt spoils no other.
func TestSpoiltAlone(t *testing.T) {
	before, bad, after := NewWriter(), NewWriter(), NewWriter()
	before.Num(1)
	bad.Num(-1)
	after.Num(2)
	later := NewWriter()
	later.Num(3)
	spoilt(t, bad)
	for i, w := range []*Writer{before, after, later} {
		if got := done(t, w); !bytes.Equal(got, []byte{byte(i + 1)}) {
			t.Errorf("writer %d: %x", i+1, got)
		}
	}
}

// modelWriter is what a writer should hold.
type modelWriter struct {
	bytes  []byte
	spoilt bool
}

// P5.1: calls in turns on several writers.
func TestWritersInTurns(t *testing.T) {
	r := source()
	writers, models := make([]*Writer, 6), make([]modelWriter, 6)
	for i := range writers {
		writers[i] = NewWriter()
	}
	for range 3000 {
		i := r.IntN(len(writers))
		putSome(r, writers[i], &models[i], i == 0)
		for j, w := range writers {
			if models[j].spoilt {
				spoilt(t, w)
			} else if !bytes.Equal(done(t, w), models[j].bytes) {
				t.Fatal("writer", j, "doesn't hold what was put into it")
			}
		}
		if len(models[i].bytes) > 2000 || models[i].spoilt && r.IntN(50) == 0 {
			writers[i], models[i] = NewWriter(), modelWriter{}
		}
	}
}

// putSome puts something into the writer and its model; now and then, where it may, what spoils it.
func putSome(r *rand.Rand, w *Writer, m *modelWriter, mayspoil bool) {
	switch r.IntN(4) {
	case 0, 1:
		n := int(r.Uint64() >> 1 >> r.IntN(64))
		if mayspoil && r.IntN(10) == 0 {
			n = -n - 1
			m.spoilt = true
			w.Num(n)
			return
		}
		w.Num(n)
		m.bytes = append(m.bytes, plain(n)...)
	case 2:
		text := string(someBytes(r, r.IntN(150)))
		w.Text(text)
		m.bytes = append(m.bytes, plainPiece(text)...)
	default:
		b := someBytes(r, r.IntN(150))
		w.Bytes(b)
		m.bytes = append(m.bytes, plainPiece(string(b))...)
	}
}
