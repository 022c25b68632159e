package net

import (
	"bollard/api"
	"cmp"
	"slices"
)

// letter is a letter that waits.
type letter struct {
	number, from, to int
	bytes            string // a text, which nobody can change: letters that were doubled may share it
}

func isNode(number int) bool { return number >= 0 && number < api.MaxWidth }

func (n *Net) isFull() bool { return len(n.letters) >= MaxLetters }

// find is the place of the letter with this number, and whether it waits.
func (n *Net) find(number int) (int, bool) {
	return slices.BinarySearchFunc(n.letters, number, func(l letter, number int) int { return cmp.Compare(l.number, number) })
}

// add lets a letter wait with the next number, which is answered.
func (n *Net) add(l letter) int {
	n.given++
	l.number = n.given
	n.letters = append(n.letters, l)
	return l.number
}

// remove lets the letter at that place wait no more.
func (n *Net) remove(place int) { n.letters = slices.Delete(n.letters, place, place+1) }
