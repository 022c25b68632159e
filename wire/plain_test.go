package wire

import (
	"bollard/api"
	"bytes"
	"encoding/binary"
	"math"
	"math/rand/v2"
	"strings"
	"testing"
)

// source gives the same numbers on every run.
func source() *rand.Rand { return rand.New(rand.NewPCG(5, 128)) }

func someBytes(r *rand.Rand, n int) []byte {
	out := make([]byte, n)
	for i := range out {
		out[i] = byte(r.Uint32())
	}
	return out
}

// numbers are both sides of every power of 128 and of 2, and the greatest one.
func numbers() []int {
	out := []int{0, 1, 300, math.MaxInt - 1, math.MaxInt}
	for i := range 63 {
		out = append(out, 1<<i-1, 1<<i, 1<<i+1)
	}
	return out
}

// negatives are numbers that nothing has.
func negatives() []int {
	return []int{-1, -2, -127, -128, -129, -1 << 31, -1 << 62, math.MinInt + 1, math.MinInt}
}

// texts are of every kind: of no bytes, of bytes that are no text, and such as are on both sides of a number of one byte and of two.
func texts() []string {
	return []string{"", "a", "ab", "\x00", "\x80", "\xff\xfe", "\x80\x80\x80", "é€", strings.Repeat("x", 127), strings.Repeat("y", 128), strings.Repeat("\x00", 300), strings.Repeat("z", 16383), strings.Repeat("long ", 4000)}
}

// plain is the other implementation's bytes of a number.
func plain(n int) []byte {
	return binary.AppendUvarint(nil, uint64(n))
}

// plainPiece is a text as bytes.
func plainPiece(text string) []byte {
	return append(plain(len(text)), text...)
}

// plainNum reads by the other implementation: the number, and what is left; false, if it isn't one in its shortest form of at most most.
func plainNum(b []byte, most int) (int, []byte, bool) {
	v, size := binary.Uvarint(b)
	if size <= 0 || v > math.MaxInt || !bytes.Equal(plain(int(v)), b[:size]) || int(v) > most {
		return 0, b, false
	}
	return int(v), b[size:], true
}

// plainText reads a text by the other implementation.
func plainText(b []byte, most int) (string, []byte, bool) {
	n, left, ok := plainNum(b, most)
	if !ok || n > len(left) {
		return "", b, false
	}
	return string(left[:n]), left[n:], true
}

// done is what a writer gives that isn't spoilt.
func done(t *testing.T, w *Writer) []byte {
	t.Helper()
	b, err := w.Done()
	if err != nil {
		t.Fatal("Done:", err)
	}
	return b
}

// stands asks what is left ahead of a reader: how many bytes, and whether it is at the end.
func stands(t *testing.T, r *Reader, left int) {
	t.Helper()
	if r.Left() != left {
		t.Fatal("Left:", r.Left(), "want", left)
	}
	if err := r.End(); left == 0 && err != nil || left > 0 && err != api.ErrBytes {
		t.Fatal("End:", err, "with", left, "bytes left")
	}
}
