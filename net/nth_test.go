package net

import (
	"math"
	"math/big"
	"slices"
	"testing"
)

// asksNth asks Nth at places below 0, at each place, beyond them and at the ends of all numbers, of a net in which just these letters wait.
func asksNth(t *testing.T, n *Net, wait []int) {
	t.Helper()
	waits(t, n, wait...)
	places := append(edges(), len(wait)-1, len(wait), len(wait)+1, -len(wait)-1, -len(wait), -len(wait)+1, math.MaxInt-len(wait), math.MinInt+len(wait))
	for i := -3 * len(wait); i <= 3*len(wait); i++ {
		places = append(places, i)
	}
	for _, i := range places {
		// Int.Mod is never below 0.
		place := new(big.Int).Mod(big.NewInt(int64(i)), big.NewInt(int64(len(wait)))).Int64()
		number, ok := n.Nth(i)
		holds(t, number == wait[place] && ok, "Nth of", i, "of", wait, ":", number, ok)
	}
	waits(t, n, wait...)
}

// P14.1: Waiting and Nth where one waits, where many do, and where there are gaps between their numbers.
func TestNth(t *testing.T) {
	n := New()
	for number := 1; number <= 40; number++ {
		sends(t, n, number, 0, number%3, nil)
		asksNth(t, n, upTo(1, number))
	}
	left := upTo(1, 40)
	r := source()
	for len(left) > 1 {
		i := r.IntN(len(left))
		drops(t, n, left[i])
		left = slices.Delete(left, i, i+1)
		asksNth(t, n, left)
	}
	drops(t, n, left[0])
	waits(t, n)
}

// P14.1: places below 0 count from behind; the chapter's Nth of 7, told for one letter, of two and of three.
func TestNthBelow(t *testing.T) {
	n := New()
	sends(t, n, 1, 0, 0, nil)
	sends(t, n, 2, 0, 0, nil)
	for i, want := range map[int]int{-4: 1, -3: 2, -2: 1, -1: 2, 0: 1, 1: 2, 2: 1, 7: 2, math.MinInt: 1, math.MaxInt: 2} {
		number, ok := n.Nth(i)
		holds(t, number == want && ok, "Nth of", i, "of two:", number, ok)
	}
	copies(t, n, 3, 1)
	for i, want := range map[int]int{-4: 3, -3: 1, -2: 2, -1: 3, 0: 1, 1: 2, 2: 3, 3: 1, 7: 2, math.MinInt: 2, math.MaxInt: 2} {
		number, ok := n.Nth(i)
		holds(t, number == want && ok, "Nth of", i, "of three:", number, ok)
	}
}

// P14.1: Nth where n letters wait, of a net that is full and of one that is nearly so.
func TestNthFull(t *testing.T) {
	n := filled(t, maxLetters)
	asksNth(t, n, upTo(1, maxLetters))
	drops(t, n, 1)
	asksNth(t, n, upTo(2, maxLetters))
	sends(t, n, maxLetters+1, 0, 0, nil)
	drops(t, n, 3, maxLetters)
	asksNth(t, n, append(append([]int{2}, upTo(4, maxLetters-1)...), maxLetters+1))
}

// P14.1: none waits any more, by whichever call: Nth answers nothing at any place.
func TestNthNone(t *testing.T) {
	n := New()
	for number := 1; number <= 3; number++ {
		sends(t, n, number, 0, 1, []byte{1})
		switch number {
		case 1:
			delivers(t, n, 1, 0, 1, []byte{1})
		case 2:
			drops(t, n, 2)
		default:
			holds(t, n.Lose(1) == 1, "Lose")
		}
		for _, i := range edges() {
			got, ok := n.Nth(i)
			holds(t, got == 0 && !ok, "Nth of", i, "where none waits:", got, ok)
		}
		waits(t, n)
	}
}
