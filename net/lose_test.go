package net

import (
	"math"
	"testing"
)

// P14.1: Lose of a node with no letter, with some and with all; the letters to others wait on, those of the node itself too.
func TestLose(t *testing.T) {
	for node := range maxWidth {
		n := New()
		other := (node + 1) % maxWidth
		sends(t, n, 1, node, other, []byte("of it"))
		holds(t, n.Lose(node) == 0, "Lose of a node with no letter")
		waits(t, n, 1)
		sends(t, n, 2, other, node, []byte("to it"))
		sends(t, n, 3, node, node, []byte("to itself"))
		sends(t, n, 4, other, other, nil)
		copies(t, n, 5, 2)
		holds(t, n.Lose(node) == 3, "Lose of a node with some letters")
		waits(t, n, 1, 4)
		holds(t, n.Lose(node) == 0, "Lose once more")
		waits(t, n, 1, 4)
		delivers(t, n, 1, node, other, []byte("of it"))
		copies(t, n, 6, 4)
		holds(t, n.Lose(other) == 2, "Lose of a node with all letters")
		waits(t, n)
		sends(t, n, 7, other, node, []byte("later"))
		delivers(t, n, 7, other, node, []byte("later"))
	}
}

// P14.1: Lose of numbers that are no node's loses nothing.
func TestLoseNoNode(t *testing.T) {
	n := New()
	for node := range maxWidth {
		sends(t, n, node+1, node, node, []byte{byte(node)})
	}
	for _, node := range []int{math.MinInt, math.MinInt + 1, -1 << 32, -256, -17, -16, -15, -1, 16, 17, 31, 32, 255, 256, 257, 1 << 32, 1<<32 + 1, 1 << 40, math.MaxInt - 1, math.MaxInt} {
		holds(t, n.Lose(node) == 0, "Lose of", node)
		waits(t, n, upTo(1, maxWidth)...)
	}
	for node := range maxWidth {
		delivers(t, n, node+1, node, node, []byte{byte(node)})
	}
}

// P14.1: Lose of each node of a full net: of all letters just those to it are lost, wherever they stand.
func TestLoseFull(t *testing.T) {
	n := filled(t, maxLetters)
	gone := map[int]bool{}
	for _, node := range []int{3, 0, 6, 15, 7, 1, 5, 4, 2} {
		lost, want := n.Lose(node), 0
		var left []int
		for i := 1; i <= maxLetters; i++ {
			switch {
			case gone[i]:
			case i%7 == node:
				want++
				gone[i] = true
			default:
				left = append(left, i)
			}
		}
		holds(t, lost == want, "Lose of", node, ":", lost, "in the place of", want)
		waits(t, n, left...)
		if len(left) > 0 {
			i := left[len(left)/2]
			delivers(t, n, i, i%16, i%7, lettered(i))
			gone[i] = true
		}
	}
	waits(t, n)
}

// P14.1: Lose of letters that stand in every pattern among others: those that wait on keep their order, their numbers and their bytes.
func TestLosePatterns(t *testing.T) {
	const letters = 8
	for pattern := range 1 << letters {
		p := newPair()
		for i := range letters {
			p.do(t, step{call: "Send", from: i, to: pattern >> i & 1, bytes: []byte{byte(i), byte(pattern)}})
		}
		p.do(t, step{call: "Lose", number: pattern % 3 % 2})
		p.drain(t, pattern)
	}
}
