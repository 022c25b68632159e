package net

import (
	"bollard/api"
	"bytes"
	"fmt"
	"maps"
	"math/big"
	"slices"
	"testing"
)

// plainNet is the other implementation of a net: all letters that ever were, by their numbers, and which of them wait.
type plainNet struct {
	all   []Letter
	waits map[int]int // the places in all of those that wait, by number
}

func newPlain() *plainNet { return &plainNet{waits: map[int]int{}} }

func (p *plainNet) lay(l Letter) int {
	l.Number = len(p.all) + 1
	p.all = append(p.all, l)
	p.waits[l.Number] = len(p.all) - 1
	return l.Number
}

func plainNode(number int) bool {
	return slices.Contains([]int{0, 1, 2, 3, 4, 5, 6, 7, 8, 9, 10, 11, 12, 13, 14, 15}, number)
}

func (p *plainNet) send(from, to int, b []byte) (int, error) {
	if !plainNode(from) || !plainNode(to) {
		return 0, api.ErrNumber
	}
	if len(p.waits) == 4096 {
		return 0, api.ErrFull
	}
	return p.lay(Letter{From: from, To: to, Bytes: bytes.Clone(b)}), nil
}

func (p *plainNet) deliver(number int) (Letter, error) {
	place, there := p.waits[number]
	if !there {
		return Letter{}, api.ErrGone
	}
	delete(p.waits, number)
	return p.all[place], nil
}

func (p *plainNet) drop(number int) error {
	_, err := p.deliver(number)
	return err
}

func (p *plainNet) copy(number int) (int, error) {
	place, there := p.waits[number]
	if !there {
		return 0, api.ErrGone
	}
	if len(p.waits) == 4096 {
		return 0, api.ErrFull
	}
	return p.lay(p.all[place]), nil
}

func (p *plainNet) waiting() []int { return slices.Sorted(maps.Keys(p.waits)) }

func (p *plainNet) nth(i int) (int, bool) {
	if len(p.waits) == 0 {
		return 0, false
	}
	// Int.Mod is never below 0.
	place := new(big.Int).Mod(big.NewInt(int64(i)), big.NewInt(int64(len(p.waits))))
	return p.waiting()[place.Int64()], true
}

func (p *plainNet) lose(node int) int {
	lost := 0
	for number, place := range p.waits {
		if p.all[place].To == node {
			delete(p.waits, number)
			lost++
		}
	}
	return lost
}

// pair is a net and one of the other implementation, to which the same is done.
type pair struct {
	net   *Net
	plain *plainNet
}

func newPair() pair { return pair{New(), newPlain()} }

// step is one call on a net; number is also the place of Nth and the node of Lose.
type step struct {
	call             string
	number, from, to int
	bytes            []byte
}

// String tells a step, in a fault that is found.
func (s step) String() string {
	return fmt.Sprintf("%s(%d, %d to %d, %x)", s.call, s.number, s.from, s.to, s.bytes)
}

// answer is what a call answers, as text; two answers that mean the same have the same text.
func answer(results ...any) string {
	for i, x := range results {
		if l, ok := x.(Letter); ok {
			results[i] = fmt.Sprintf("%d: %d to %d, %x", l.Number, l.From, l.To, l.Bytes)
		}
	}
	return fmt.Sprint(results...)
}

func (s step) doNet(n *Net) string {
	switch s.call {
	case "Send":
		number, err := n.Send(s.from, s.to, s.bytes)
		return answer(number, err)
	case "Deliver":
		l, err := n.Deliver(s.number)
		return answer(l, err)
	case "Drop":
		return answer(n.Drop(s.number))
	case "Copy":
		number, err := n.Copy(s.number)
		return answer(number, err)
	case "Nth":
		number, ok := n.Nth(s.number)
		return answer(number, ok)
	case "Lose":
		return answer(n.Lose(s.number))
	}
	return "no such call: " + s.call
}

func (s step) doPlain(p *plainNet) string {
	switch s.call {
	case "Send":
		number, err := p.send(s.from, s.to, s.bytes)
		return answer(number, err)
	case "Deliver":
		l, err := p.deliver(s.number)
		return answer(l, err)
	case "Drop":
		return answer(p.drop(s.number))
	case "Copy":
		number, err := p.copy(s.number)
		return answer(number, err)
	case "Nth":
		number, ok := p.nth(s.number)
		return answer(number, ok)
	case "Lose":
		return answer(p.lose(s.number))
	}
	return "no call of that name: " + s.call
}

// do does the step to both, and asks that both answer the same.
func (p pair) do(t *testing.T, s step) {
	t.Helper()
	got, want := s.doNet(p.net), s.doPlain(p.plain)
	holds(t, got == want, s, ":", got, "in the place of", want)
}

// same asks that the same letters wait in both.
func (p pair) same(t *testing.T, row any) {
	t.Helper()
	got, want := p.net.Waiting(), p.plain.waiting()
	holds(t, slices.Equal(got, want), "behind", row, ":", got, "in the place of", want)
}

// drain asks that the same letters wait in both, with the same numbers, senders, receivers and bytes, and that the same number comes next; then none waits.
func (p pair) drain(t *testing.T, row any) {
	t.Helper()
	p.same(t, row)
	for _, number := range p.plain.waiting() {
		p.do(t, step{call: "Deliver", number: number})
	}
	p.same(t, row)
	p.do(t, step{call: "Nth"})
	p.do(t, step{call: "Send"})
	p.do(t, step{call: "Drop", number: len(p.plain.all)})
}
