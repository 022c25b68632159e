package net

import (
	"bytes"
	"math"
	"math/rand/v2"
	"slices"
	"testing"
)

// maxLetters and maxWidth are the document's numbers.
const (
	maxLetters = 4096
	maxWidth   = 16
)

// source gives the same numbers on every run.
func source() *rand.Rand { return rand.New(rand.NewPCG(14, 4096)) }

func someBytes(r *rand.Rand, n int) []byte {
	out := make([]byte, n)
	for i := range out {
		out[i] = byte(r.Uint32())
	}
	return out
}

// holds tells what was asked, if it doesn't hold.
func holds(t *testing.T, ok bool, what ...any) {
	t.Helper()
	if !ok {
		t.Fatal(what...)
	}
}

// sends sends a letter, which must be given that number.
func sends(t *testing.T, n *Net, want, from, to int, b []byte) {
	t.Helper()
	number, err := n.Send(from, to, b)
	holds(t, number == want && err == nil, "Send from", from, "to", to, "answers", number, err, "in the place of", want)
}

// copies doubles a letter, which must be given that number.
func copies(t *testing.T, n *Net, want, number int) {
	t.Helper()
	other, err := n.Copy(number)
	holds(t, other == want && err == nil, "Copy of", number, "answers", other, err, "in the place of", want)
}

// delivers delivers a letter, which must be that one.
func delivers(t *testing.T, n *Net, number, from, to int, b []byte) {
	t.Helper()
	l, err := n.Deliver(number)
	holds(t, err == nil, "Deliver of", number, ":", err)
	holds(t, l.Number == number && l.From == from && l.To == to && bytes.Equal(l.Bytes, b), "Deliver of", number, "answers", l, "in the place of", from, to, b)
}

// drops drops letters.
func drops(t *testing.T, n *Net, numbers ...int) {
	t.Helper()
	for _, number := range numbers {
		err := n.Drop(number)
		holds(t, err == nil, "Drop of", number, ":", err)
	}
}

// waits asks that just these letters wait, by Waiting and by Nth.
func waits(t *testing.T, n *Net, want ...int) {
	t.Helper()
	got := n.Waiting()
	holds(t, slices.Equal(got, want), "Waiting:", got, "in the place of", want)
	for i := range want {
		number, ok := n.Nth(i)
		holds(t, number == want[i] && ok, "Nth of", i, "answers", number, ok, "in the place of", want[i])
	}
	if len(want) == 0 {
		number, ok := n.Nth(0)
		holds(t, number == 0 && !ok, "Nth where none waits:", number, ok)
	}
}

// upTo are the numbers from the first one on, up to the last one.
func upTo(first, last int) []int {
	var out []int
	for i := first; i <= last; i++ {
		out = append(out, i)
	}
	return out
}

// edges are numbers that are at the end of something, or beyond it.
func edges() []int {
	return []int{
		math.MinInt, math.MinInt + 1, math.MinInt32, -maxLetters, -17, -16, -2, -1, 0, 1, 2, 3, 14, 15, 16, 17, 255, 256,
		maxLetters - 1, maxLetters, maxLetters + 1, math.MaxInt32, math.MaxInt32 + 1, 1<<32 + 1, 1<<40 + 1, math.MaxInt - 1, math.MaxInt,
	}
}
