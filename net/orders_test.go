package net

import (
	"fmt"
	"math/rand/v2"
	"testing"
)

// calls are those of which rows are made: of and to two nodes, with the numbers of the first letters, and such as are refused.
func calls() []step {
	return []step{
		{call: "Send", from: 0, to: 1}, {call: "Send", from: 1, to: 0}, {call: "Send", from: 0, to: 16},
		{call: "Deliver", number: 1}, {call: "Deliver", number: 2}, {call: "Deliver", number: 3},
		{call: "Drop", number: 1}, {call: "Drop", number: 2},
		{call: "Copy", number: 1}, {call: "Copy", number: 2}, {call: "Copy", number: 3},
		{call: "Lose", number: 0}, {call: "Lose", number: 1},
	}
}

// tryRow does the calls of that row to a new pair, each Send with bytes of its own, and asks that both end alike.
func tryRow(t *testing.T, row []step) {
	t.Helper()
	p := newPair()
	for i, s := range row {
		if s.call == "Send" {
			s.bytes = []byte{byte(i + 1), byte(len(row))}
		}
		p.do(t, s)
	}
	p.do(t, step{call: "Nth", number: len(row)})
	p.do(t, step{call: "Nth", number: -1})
	p.drain(t, row)
}

// everyRow tries each row that begins so and has at most left steps more.
func everyRow(t *testing.T, row []step, left int) {
	t.Helper()
	tryRow(t, row)
	if left == 0 {
		return
	}
	for _, s := range calls() {
		everyRow(t, append(row[:len(row):len(row)], s), left-1)
	}
}

// P14.1, P14.2: the calls in every order, against another implementation: behind no letter, one, and three.
func TestEveryOrder(t *testing.T) {
	everyRow(t, nil, 4)
	everyRow(t, calls()[:1], 4)
	everyRow(t, []step{calls()[0], calls()[1], calls()[8]}, 3)
}

// drawn is a step with numbers near those of the letters that were given out, and now and then with any others.
func drawn(r *rand.Rand, p pair, names []string) step {
	given := len(p.plain.all)
	number := func() int {
		switch r.IntN(10) {
		case 0:
			return edges()[r.IntN(len(edges()))]
		case 1:
			return given + 1 - r.IntN(3)
		case 2, 3:
			return r.IntN(given+2) - 1
		}
		one, _ := p.plain.nth(r.IntN(1000))
		return one
	}
	s := step{call: names[r.IntN(len(names))], from: r.IntN(16), to: r.IntN(16), number: number(), bytes: someBytes(r, r.IntN(9))}
	if s.call == "Lose" {
		s.number = r.IntN(17)
	}
	if r.IntN(30) == 0 {
		s.from = number()
	}
	if r.IntN(30) == 0 {
		s.to = number()
	}
	return s
}

// P14.1, P14.2: long rows of all calls on several nets side by side: each answers as if it stood alone.
func TestManyCalls(t *testing.T) {
	r := source()
	names := []string{"Send", "Send", "Send", "Send", "Send", "Deliver", "Deliver", "Drop", "Copy", "Copy", "Nth", "Lose"}
	for range 100 {
		nets := []pair{newPair(), newPair(), newPair()}
		for i := range 400 {
			p := nets[r.IntN(len(nets))]
			s := drawn(r, p, names)
			p.do(t, s)
			for _, q := range nets {
				q.same(t, fmt.Sprint(i, " calls, the last ", s))
			}
		}
		for _, q := range nets {
			q.drain(t, "a long row")
		}
	}
}

// P14.1, P14.2: long rows of calls on nets in which MaxLetters letters wait most of the time.
func TestManyLetters(t *testing.T) {
	r := source()
	p := newPair()
	for i := range maxLetters - 20 {
		p.do(t, step{call: "Send", from: i % 16, to: i % 16, bytes: someBytes(r, 3)})
	}
	names := []string{"Send", "Send", "Send", "Send", "Copy", "Copy", "Copy", "Copy", "Deliver", "Drop", "Nth"}
	most := 0
	for i := range 10000 {
		s := drawn(r, p, names)
		if i%2500 == 2499 {
			s = step{call: "Lose", number: i % 16}
		}
		p.do(t, s)
		if len(p.plain.waits) == maxLetters {
			most++
		}
		if i%500 == 0 {
			p.same(t, fmt.Sprint(i, " calls"))
		}
	}
	holds(t, most > 1000, "the net has too seldom as many letters as it may:", most)
	p.drain(t, "all calls")
}

// P14.1: every call, also with numbers at every edge, on nets of every kind: with no letter, one, many, MaxLetters less one and just MaxLetters.
func TestEveryCall(t *testing.T) {
	for _, letters := range []int{0, 1, 2, 3, 17, 100, maxLetters - 1, maxLetters} {
		for _, gap := range []bool{false, true} {
			p := newPair()
			for i := range letters {
				p.do(t, step{call: "Send", from: i % 16, to: i % 5, bytes: []byte{byte(i)}})
			}
			for number := 2; gap && number < letters; number += 3 {
				p.do(t, step{call: []string{"Drop", "Deliver"}[number%2], number: number})
			}
			for _, n := range append(edges(), letters-1, letters, letters+1, -letters) {
				for _, call := range []string{"Nth", "Copy", "Deliver", "Drop", "Copy", "Nth"} {
					p.do(t, step{call: call, number: n})
				}
				p.do(t, step{call: "Send", from: n, to: 1, bytes: []byte{1}})
				p.do(t, step{call: "Send", from: 1, to: n})
				p.same(t, fmt.Sprint("calls with ", n))
			}
			for _, n := range edges() {
				p.do(t, step{call: "Lose", number: n})
			}
			p.drain(t, "every call")
		}
	}
}
