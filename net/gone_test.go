package net

import (
	"bollard/api"
	"math"
	"testing"
)

// refusesGone asks that Deliver, Drop and Copy of these numbers are refused with ErrGone, and that the same letters wait afterwards.
func refusesGone(t *testing.T, n *Net, wait []int, numbers ...int) {
	t.Helper()
	for _, number := range numbers {
		for range 2 {
			l, err := n.Deliver(number)
			holds(t, answer(l, err) == answer(Letter{}, api.ErrGone) && l.Bytes == nil, "Deliver of", number, "that doesn't wait:", l, err)
			err = n.Drop(number)
			holds(t, err == api.ErrGone, "Drop of", number, "that doesn't wait:", err)
			other, err := n.Copy(number)
			holds(t, other == 0 && err == api.ErrGone, "Copy of", number, "that doesn't wait:", other, err)
		}
	}
	waits(t, n, wait...)
}

// never are numbers that no net of few letters has given out.
func never() []int {
	return []int{math.MinInt, math.MinInt + 1, -1 << 32, -4097, -2, -1, 0, 100, 4095, 4096, 4097, 1 << 31, 1<<32 + 1, 1<<32 + 2, 1 << 40, math.MaxInt - 1, math.MaxInt}
}

// P14.1: numbers that were never given out, 0 and below, and the greatest and least int.
func TestNeverGiven(t *testing.T) {
	n := New()
	refusesGone(t, n, nil, never()...)
	refusesGone(t, n, nil, 1, 2)
	for number := 1; number <= 5; number++ {
		sends(t, n, number, number, 15-number, []byte{byte(number)})
		refusesGone(t, n, upTo(1, number), never()...)
		refusesGone(t, n, upTo(1, number), number+1, number+2)
	}
	for number := 1; number <= 5; number++ {
		delivers(t, n, number, number, 15-number, []byte{byte(number)})
		refusesGone(t, n, upTo(number+1, 5), never()...)
		refusesGone(t, n, upTo(number+1, 5), 6)
	}
	sends(t, n, 6, 0, 0, nil)
}

// P14.1: numbers that waited once: delivered, dropped or lost, of letters that were sent and of such as were doubled, while all others wait on.
func TestWaitedOnce(t *testing.T) {
	ends := map[string]func(*testing.T, *Net, int){
		"Deliver": func(t *testing.T, n *Net, number int) { delivers(t, n, number, 9, number, []byte{byte(number % 5)}) },
		"Drop":    func(t *testing.T, n *Net, number int) { drops(t, n, number) },
	}
	for name, end := range ends {
		for first := 1; first <= 5; first++ {
			for second := 1; second <= 5; second++ {
				n := New()
				for number := 1; number <= 5; number++ {
					sends(t, n, number, 9, number, []byte{byte(number % 5)})
				}
				end(t, n, first)
				refusesGone(t, n, without(upTo(1, 5), first), first)
				if second != first {
					end(t, n, second)
				}
				refusesGone(t, n, without(upTo(1, 5), first, second), first, second)
				sends(t, n, 6, 0, 0, []byte(name))
				refusesGone(t, n, append(without(upTo(1, 5), first, second), 6), first, second)
			}
		}
	}
}

// without are the numbers but for those.
func without(numbers []int, gone ...int) []int {
	var out []int
	for _, number := range numbers {
		keep := true
		for _, g := range gone {
			keep = keep && number != g
		}
		if keep {
			out = append(out, number)
		}
	}
	return out
}

// P14.1: numbers that were lost with their node wait no more.
func TestLostOnce(t *testing.T) {
	n := New()
	for number := 1; number <= 6; number++ {
		sends(t, n, number, 2, number%2, []byte{byte(number)})
	}
	copies(t, n, 7, 3)
	holds(t, n.Lose(1) == 4, "Lose")
	refusesGone(t, n, []int{2, 4, 6}, 1, 3, 5, 7, 8)
	for _, number := range []int{4, 6, 2} {
		delivers(t, n, number, 2, 0, []byte{byte(number)})
	}
	refusesGone(t, n, nil, upTo(0, 8)...)
}

// P14.1: a letter's number is gone behind Deliver though its like waits on, and the like's though the letter does.
func TestLikeWaits(t *testing.T) {
	n := New()
	sends(t, n, 1, 0, 1, []byte("a"))
	copies(t, n, 2, 1)
	delivers(t, n, 1, 0, 1, []byte("a"))
	refusesGone(t, n, []int{2}, 1)
	copies(t, n, 3, 2)
	drops(t, n, 3)
	refusesGone(t, n, []int{2}, 1, 3)
	delivers(t, n, 2, 0, 1, []byte("a"))
	refusesGone(t, n, nil, 1, 2, 3)
}
