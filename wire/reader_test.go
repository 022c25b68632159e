package wire

import (
	"bollard/api"
	"bytes"
	"math"
	"slices"
	"testing"
)

// mosts are the bounds on both sides of a number, 0 and those below it.
func mosts(n int) []int {
	out := []int{0, 1, 127, 128, math.MaxInt, n}
	if n > 0 {
		out = append(out, n-1)
	}
	if n < math.MaxInt {
		out = append(out, n+1)
	}
	return append(out, negatives()...)
}

// readsNum asks that Num does what the other implementation does, and stands where it should.
func readsNum(t *testing.T, r *Reader, left []byte, most int) []byte {
	t.Helper()
	want, behind, ok := plainNum(left, most)
	got, err := r.Num(most)
	if ok != (err == nil) || !ok && err != api.ErrBytes || got != want {
		t.Fatalf("Num of %x, at most %d: %d, %v, want %d, %v", left[:min(12, len(left))], most, got, err, want, ok)
	}
	stands(t, r, len(behind))
	return behind
}

// readsText asks the same of Text.
func readsText(t *testing.T, r *Reader, left []byte, most int) []byte {
	t.Helper()
	want, behind, ok := plainText(left, most)
	got, err := r.Text(most)
	if ok != (err == nil) || !ok && err != api.ErrBytes || got != want {
		t.Fatalf("Text of %x, at most %d: %d bytes, %v, want %d, %v", left[:min(12, len(left))], most, len(got), err, len(want), ok)
	}
	stands(t, r, len(behind))
	return behind
}

// readsBytes asks the same of Bytes; beside an error there is no list.
func readsBytes(t *testing.T, r *Reader, left []byte, most int) []byte {
	t.Helper()
	want, behind, ok := plainText(left, most)
	got, err := r.Bytes(most)
	if ok != (err == nil) || !ok && (err != api.ErrBytes || got != nil) || string(got) != want {
		t.Fatalf("Bytes of %x, at most %d: %d bytes, %v, want %d, %v", left[:min(12, len(left))], most, len(got), err, len(want), ok)
	}
	stands(t, r, len(behind))
	return behind
}

// readsAll asks every call at the beginning of bytes.
func readsAll(t *testing.T, b []byte, most int) {
	t.Helper()
	readsNum(t, NewReader(b), b, most)
	readsText(t, NewReader(b), b, most)
	readsBytes(t, NewReader(b), b, most)
}

// P5.1: a reader of no bytes is at its end, and has nothing to read, not even a number of no bytes.
func TestReadNothing(t *testing.T) {
	for _, b := range [][]byte{nil, {}} {
		r := NewReader(b)
		stands(t, r, 0)
		for _, most := range mosts(0) {
			readsNum(t, r, b, most)
			readsText(t, r, b, most)
			readsBytes(t, r, b, most)
		}
	}
}

// P5.1: numbers on both sides of every power, with most on both sides of them, 0 and below; of what is behind nothing is taken.
func TestReadNum(t *testing.T) {
	for _, n := range numbers() {
		for _, most := range mosts(n) {
			readsAll(t, plain(n), most)
			for _, tail := range []byte{0, 1, 127, 128, 255} {
				readsAll(t, append(plain(n), tail), most)
			}
		}
		if got, err := NewReader(plain(n)).Num(n); got != n || err != nil {
			t.Errorf("Num of %d: %d, %v", n, got, err)
		}
	}
}

// P5.1: numbers that are cut off.
func TestReadNumCutOff(t *testing.T) {
	for _, n := range numbers() {
		whole := plain(n)
		for i := range whole {
			b := whole[:i]
			r := NewReader(b)
			if got, err := r.Num(math.MaxInt); got != 0 || err != api.ErrBytes {
				t.Errorf("Num of %x: %d, %v", b, got, err)
			}
			stands(t, r, i)
		}
	}
}

// P5.1: numbers that aren't in their shortest form, or have more than nine bytes.
func TestReadNumTooLong(t *testing.T) {
	for _, n := range numbers() {
		b := plain(n)
		for len(b) < 20 {
			b[len(b)-1] |= 128
			b = append(b, 0)
			for _, most := range mosts(n) {
				readsAll(t, b, most)
				readsAll(t, append(bytes.Clone(b), 7, 7, 7), most)
			}
			if got, err := NewReader(b).Num(math.MaxInt); got != 0 || err != api.ErrBytes {
				t.Errorf("Num of %x: %d, %v", b, got, err)
			}
		}
	}
	for size := range 30 {
		for _, last := range []byte{0, 1, 2, 63, 64, 127} {
			for _, other := range []byte{128, 129, 192, 255} {
				b := append(bytes.Repeat([]byte{other}, size), last)
				readsAll(t, b, math.MaxInt)
				if got, err := NewReader(b).Num(math.MaxInt); size >= 9 && (got != 0 || err != api.ErrBytes) {
					t.Errorf("Num of %x: %d, %v", b, got, err)
				}
			}
		}
	}
}

// P5.1: all two bytes, and all rows of six telling ones.
func TestReadAnything(t *testing.T) {
	for i := range 1 << 16 {
		b := []byte{byte(i >> 8), byte(i)}
		readsAll(t, b, math.MaxInt)
		readsAll(t, b, i%300)
	}
	few := []byte{0, 1, 2, 127, 128, 255}
	for i := range 6 * 6 * 6 * 6 * 6 * 6 {
		b := make([]byte, 6)
		for j, rest := 0, i; j < 6; j, rest = j+1, rest/6 {
			b[j] = few[rest%6]
		}
		readsAll(t, b, math.MaxInt)
		readsAll(t, b, 3)
	}
}

// P5.1: texts and lists of every kind, with most on both sides of their number, 0 and below.
func TestReadTexts(t *testing.T) {
	for _, text := range texts() {
		b := plainPiece(text)
		for _, most := range mosts(len(text)) {
			readsAll(t, b, most)
			readsAll(t, append(bytes.Clone(b), 0, 9), most)
		}
		if got, err := NewReader(b).Text(len(text)); got != text || err != nil {
			t.Errorf("Text of %d bytes: %d, %v", len(text), len(got), err)
		}
		if got, err := NewReader(b).Bytes(len(text)); string(got) != text || err != nil {
			t.Errorf("Bytes of %d bytes: %d, %v", len(text), len(got), err)
		}
	}
}

// P5.1: numbers of bytes that are greater than what is left, by one and by far; the place stays, and Num reads there.
func TestReadTextsTooLong(t *testing.T) {
	for _, n := range numbers()[1:] {
		for _, have := range []int{0, 1, 2, 126, 127, 128, 300} {
			b := append(plain(n), make([]byte, have)...)
			for _, most := range mosts(n) {
				readsAll(t, b, most)
			}
			if n <= have {
				continue
			}
			r := NewReader(b)
			if got, err := r.Text(math.MaxInt); got != "" || err != api.ErrBytes {
				t.Errorf("Text of %d bytes where %d are left: %q, %v", n, have, got, err)
			}
			if got, err := r.Bytes(math.MaxInt); got != nil || err != api.ErrBytes {
				t.Errorf("Bytes of %d bytes where %d are left: %q, %v", n, have, got, err)
			}
			stands(t, r, len(b))
			if got, err := r.Num(math.MaxInt); got != n || err != nil {
				t.Errorf("Num behind a refusal: %d, %v, want %d", got, err, n)
			}
			stands(t, r, have)
		}
	}
}

// P5.1: a refused call may be made again with another most, and other calls at the same place.
func TestPlaceStays(t *testing.T) {
	b := slices.Concat(plain(5), plainPiece("abc"), plainPiece("de"), []byte{0x80, 0})
	r := NewReader(b)
	left := b
	for _, most := range []int{-1, 0, 4} {
		left = readsNum(t, r, left, most)
	}
	left = readsNum(t, r, left, 5)
	for _, most := range []int{math.MinInt, 0, 2} {
		left = readsText(t, r, left, most)
		left = readsBytes(t, r, left, most)
	}
	left = readsText(t, r, left, 3)
	left = readsText(t, r, left, 1)
	left = readsBytes(t, r, left, 2)
	for range 3 {
		left = readsNum(t, r, left, math.MaxInt)
		left = readsText(t, r, left, math.MaxInt)
		left = readsBytes(t, r, left, math.MaxInt)
	}
	if len(left) != 2 {
		t.Error(len(left), "bytes left")
	}
}

// P5.1: Left and End at every place.
func TestLeft(t *testing.T) {
	for size := range 300 {
		r := NewReader(make([]byte, size))
		for left := size; left > 0; left-- {
			stands(t, r, left)
			if n, err := r.Num(0); n != 0 || err != nil {
				t.Fatal("Num of 00:", n, err)
			}
		}
		stands(t, r, 0)
		stands(t, r, 0)
	}
}

// P5.1: calls in turns on several readers, of some bytes that were put and of others.
func TestReadersInTurns(t *testing.T) {
	random := source()
	readers, lefts := make([]*Reader, 6), make([][]byte, 6)
	for i := range readers {
		readers[i] = NewReader(nil)
	}
	for range 40000 {
		i := random.IntN(len(readers))
		most := []int{math.MaxInt, 10, 1000, 0, -1, int(random.Uint64() >> random.IntN(64))}[random.IntN(6)]
		switch random.IntN(3) {
		case 0:
			lefts[i] = readsNum(t, readers[i], lefts[i], most)
		case 1:
			lefts[i] = readsText(t, readers[i], lefts[i], most)
		default:
			lefts[i] = readsBytes(t, readers[i], lefts[i], most)
		}
		for j := range readers {
			stands(t, readers[j], len(lefts[j]))
		}
		if random.IntN(20) == 0 {
			lefts[i] = someBytes(random, random.IntN(200))
			for j := range lefts[i] {
				lefts[i][j] >>= random.IntN(8)
			}
			readers[i] = NewReader(lefts[i])
		}
	}
}
