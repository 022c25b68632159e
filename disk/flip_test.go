package disk

import (
	"fmt"
	"math"
	"testing"
)

// harmed is a pair with files of every kind: of no bytes, never synced, synced, and written since.
func harmed(t *testing.T) pair {
	t.Helper()
	p := newPair()
	steps := []step{
		{call: "Write", name: "m", bytes: []byte{255, 0, 85}},
		{call: "Write", name: "aa", bytes: []byte{1, 2}},
		{call: "Write", name: "a"},
		{call: "Write", name: "z", bytes: []byte{170}},
		{call: "Sync", name: "m"},
		{call: "Sync", name: "z"},
		{call: "Write", name: "z", bytes: []byte{3, 4, 5, 6}},
		{call: "Write", name: "B", bytes: []byte{7}},
		{call: "Sync", name: "B"},
		{call: "Write", name: "B"},
		{call: "Write", name: "~", bytes: []byte{8}},
		{call: "Rename", name: "~", to: "n"},
		{call: "Write", name: "~"},
	}
	for _, s := range steps {
		p.do(t, s)
	}
	return p
}

// harmedBits is how many bits harmed's files have.
const harmedBits = 8 * (3 + 2 + 4 + 1)

// P7.1: without bytes there is no bit: no files, or files without bytes, though others be safe of them.
func TestFlipNone(t *testing.T) {
	d := New()
	good(t, d.Write("a", []byte{1}), d.Sync("a"), d.Write("a", nil), d.Write("b", nil))
	lost := New()
	good(t, lost.Write("a", []byte{1}))
	lost.Lose()
	for _, n := range []int{0, 1, -1, 8, math.MaxInt, math.MinInt} {
		if New().Flip(n) || d.Flip(n) || lost.Flip(n) {
			t.Fatal("a bit of none is turned:", n)
		}
	}
	lists(t, d, "a", "b")
	d.Crash()
	reads(t, d, "a", 1)
	lists(t, d, "a")
}

// P7.1: the lowest bit of the first byte comes first, also by numbers below 0 and beyond all bits.
func TestFlipOrder(t *testing.T) {
	for n, want := range map[int][2]byte{0: {1, 0}, 1: {2, 0}, 7: {128, 0}, 8: {0, 1}, 15: {0, 128}, 16: {1, 0}, 31: {0, 128}, -1: {0, 128}, -8: {0, 1}, -9: {128, 0}, -16: {1, 0}, -17: {0, 128}, math.MaxInt: {0, 128}, math.MinInt: {1, 0}} {
		d := New()
		good(t, d.Write("b", []byte{0}), d.Write("a", []byte{0}))
		if !d.Flip(n) {
			t.Fatal("Flip", n)
		}
		reads(t, d, "a", want[0])
		reads(t, d, "b", want[1])
	}
}

// P7.1: every number, below 0, beyond all bits and at the ends of all numbers; what is safe behind it.
func TestFlipEvery(t *testing.T) {
	numbers := []int{math.MinInt, math.MinInt + 1, math.MaxInt, math.MaxInt - 1, math.MinInt32, math.MaxInt32, 1 << 40, -1 << 40}
	for n := -3 * harmedBits; n <= 3*harmedBits; n++ {
		numbers = append(numbers, n)
	}
	for _, n := range numbers {
		p := harmed(t)
		before := p.plain.told()
		p.do(t, step{call: "Flip", n: n})
		p.same(t, n)
		p.do(t, step{call: "Crash"})
		p.same(t, fmt.Sprint(n, " and a crash"))
		q := harmed(t)
		q.do(t, step{call: "Flip", n: n})
		q.do(t, step{call: "Flip", n: n})
		if q.plain.told() != before {
			t.Fatal("a bit that is turned twice")
		}
		q.same(t, n)
	}
}

// P7.1: what is safe of the file are its bytes with the bit turned, though they weren't synced; other files keep what is safe of them.
func TestFlipSafe(t *testing.T) {
	d := New()
	good(t, d.Write("a", []byte{1}), d.Sync("a"), d.Write("a", []byte{2}), d.Write("b", []byte{4}), d.Sync("b"), d.Write("b", []byte{5}), d.Write("c", []byte{6}))
	d.Flip(0)
	reads(t, d, "a", 3)
	d.Crash()
	reads(t, d, "a", 3)
	reads(t, d, "b", 4)
	lists(t, d, "a", "b")
	good(t, d.Write("c", []byte{6}))
	d.Flip(16)
	d.Crash()
	reads(t, d, "c", 7)
}

// P7.1: what is written behind a turned bit is not safe by it.
func TestWriteBehindFlip(t *testing.T) {
	d := New()
	good(t, d.Write("a", []byte{1}))
	d.Flip(3)
	good(t, d.Write("a", []byte{2}))
	reads(t, d, "a", 2)
	d.Crash()
	reads(t, d, "a", 9)
	d.Flip(0)
	good(t, d.Rename("a", "b"), d.Write("b", nil))
	d.Crash()
	reads(t, d, "b", 8)
}

// P7.1: a drive that has MaxFiles files.
func TestFlipCrowded(t *testing.T) {
	p := newPair()
	for _, s := range crowding() {
		p.do(t, s)
	}
	for n := -100; n < 20000; n += 37 {
		p.do(t, step{call: "Flip", n: n})
	}
	p.same(t, "many turned bits")
}
