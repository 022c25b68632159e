package net

import (
	"bollard/api"
	"math"
	"testing"
)

// P14.1: the chapter's examples.
func TestExamples(t *testing.T) {
	n := New()
	sends(t, n, 1, 0, 1, []byte("a"))
	copies(t, n, 2, 1)
	delivers(t, n, 1, 0, 1, []byte("a"))
	l, err := n.Deliver(1)
	holds(t, answer(l, err) == answer(Letter{}, api.ErrGone), "Deliver once more:", l, err)
	waits(t, n, 2)
	number, ok := n.Nth(7)
	holds(t, number == 2 && ok, "Nth:", number, ok)
	lost := n.Lose(1)
	holds(t, lost == 1, "Lose:", lost)
	waits(t, n)
}

// P14.1: so many letters may wait.
func TestMaxLetters(t *testing.T) {
	holds(t, MaxLetters == maxLetters && api.MaxWidth == maxWidth, MaxLetters, api.MaxWidth)
}

// P14.1: a new net has no letter and has given out no number.
func TestNew(t *testing.T) {
	for _, i := range edges() {
		n := New()
		waits(t, n)
		number, ok := n.Nth(i)
		holds(t, number == 0 && !ok && n.Lose(i) == 0, "Nth of none:", i, number, ok)
		l, err := n.Deliver(i)
		holds(t, answer(l, err) == answer(Letter{}, api.ErrGone), "Deliver of", i, ":", l, err)
		other, fault := n.Copy(i)
		holds(t, other == 0 && fault == api.ErrGone && n.Drop(i) == api.ErrGone, "Copy of", i, ":", other, fault)
		waits(t, n)
		sends(t, n, 1, 0, 0, nil)
	}
}

// P14.1, P14.2: Send of and to every node, itself too: each letter waits, and is delivered with its sender and its receiver.
func TestSendNodes(t *testing.T) {
	n := New()
	for from := range maxWidth {
		for to := range maxWidth {
			sends(t, n, from*maxWidth+to+1, from, to, []byte{byte(from), byte(to)})
		}
	}
	waits(t, n, upTo(1, maxWidth*maxWidth)...)
	for from := range maxWidth {
		for to := range maxWidth {
			delivers(t, n, from*maxWidth+to+1, from, to, []byte{byte(from), byte(to)})
		}
	}
	waits(t, n)
}

// P14.1: Send of or to a number that is no node's is refused with ErrNumber, and changes nothing: no number is given out.
func TestSendNoNode(t *testing.T) {
	n := New()
	next := 1
	for _, from := range edges() {
		for _, to := range edges() {
			if from >= 0 && from < 16 && to >= 0 && to < 16 {
				sends(t, n, next, from, to, []byte{1})
				delivers(t, n, next, from, to, []byte{1})
				next++
				continue
			}
			for _, b := range [][]byte{nil, {}, {1, 2}} {
				number, err := n.Send(from, to, b)
				holds(t, number == 0 && err == api.ErrNumber, "Send from", from, "to", to, ":", number, err)
			}
			waits(t, n)
		}
	}
	sends(t, n, next, 15, 0, nil)
}

// P14.2: letters with no bytes, one, and many are delivered with the bytes that were sent.
func TestSendBytes(t *testing.T) {
	r := source()
	n := New()
	sizes := []int{0, 1, 2, 31, 32, 33, 255, 256, 1000, 1 << 16, 1<<20 + 1}
	var all [][]byte
	for i, size := range sizes {
		all = append(all, someBytes(r, size))
		sends(t, n, i+1, 3, 4, all[i])
	}
	for i := range sizes {
		copies(t, n, len(sizes)+1+i, i+1)
	}
	for i := len(sizes) - 1; i >= 0; i-- {
		delivers(t, n, i+1, 3, 4, all[i])
	}
	for i := range sizes {
		delivers(t, n, len(sizes)+1+i, 3, 4, all[i])
	}
}

// P14.2: bytes of each value, also such as are no text.
func TestSendEveryByte(t *testing.T) {
	n := New()
	for i := range 256 {
		sends(t, n, i+1, 0, 1, []byte{byte(i), 0xff, byte(i)})
	}
	for i := range 256 {
		delivers(t, n, i+1, 0, 1, []byte{byte(i), 0xff, byte(i)})
	}
}

// P14.1: nil and an empty list mean the same.
func TestSendNil(t *testing.T) {
	n := New()
	sends(t, n, 1, 5, 6, nil)
	sends(t, n, 2, 5, 6, []byte{})
	copies(t, n, 3, 1)
	for number := 1; number <= 3; number++ {
		delivers(t, n, number, 5, 6, nil)
	}
}

// P14.1: two letters that are alike are two letters.
func TestAlike(t *testing.T) {
	n := New()
	for number := 1; number <= 5; number++ {
		sends(t, n, number, 1, 2, []byte("x"))
	}
	drops(t, n, 3)
	delivers(t, n, 2, 1, 2, []byte("x"))
	waits(t, n, 1, 4, 5)
	copies(t, n, 6, 4)
	drops(t, n, 4)
	waits(t, n, 1, 5, 6)
	delivers(t, n, 6, 1, 2, []byte("x"))
}

// P14.2: a letter that was doubled, and its like, are two letters: each is delivered, dropped and doubled by its own number.
func TestCopies(t *testing.T) {
	b := []byte("like it")
	n := New()
	sends(t, n, 1, 2, 9, b)
	copies(t, n, 2, 1)
	copies(t, n, 3, 2)
	copies(t, n, 4, 1)
	drops(t, n, 1)
	_, err := n.Copy(1)
	holds(t, err == api.ErrGone, "Copy of a letter that was dropped:", err)
	copies(t, n, 5, 3)
	delivers(t, n, 3, 2, 9, b)
	copies(t, n, 6, 5)
	waits(t, n, 2, 4, 5, 6)
	for _, number := range []int{6, 2, 5, 4} {
		delivers(t, n, number, 2, 9, b)
	}
	waits(t, n)
}

// P14.1: numbers rise from 1 on and are never given out again, behind Drop, Deliver and Lose too, also where none waits.
func TestNumbersRise(t *testing.T) {
	n := New()
	end := []func(int){
		func(number int) { drops(t, n, number) },
		func(number int) { delivers(t, n, number, 1, 2, []byte{7}) },
		func(int) { holds(t, n.Lose(2) == 1, "Lose") },
		func(number int) {
			copies(t, n, number+1, number)
			holds(t, n.Lose(2) == 2, "Lose of two")
		},
		func(number int) {
			copies(t, n, number+1, number)
			drops(t, n, number+1, number)
		},
	}
	next := 1
	for i := range 20000 {
		sends(t, n, next, 1, 2, []byte{7})
		waits(t, n, next)
		end[i%5](next)
		waits(t, n)
		next++
		if i%5 > 2 {
			next++
		}
	}
}

// P14.1: the newest number, dropped, delivered or lost ahead of the next, isn't given out again while others wait either.
func TestNewestGone(t *testing.T) {
	n := New()
	sends(t, n, 1, 0, 0, nil)
	for i := range 9 {
		number := 2 + i
		sends(t, n, number, 0, 1, nil)
		switch i % 3 {
		case 0:
			drops(t, n, number)
		case 1:
			delivers(t, n, number, 0, 1, nil)
		default:
			holds(t, n.Lose(1) == 1, "Lose")
		}
		waits(t, n, 1)
	}
	copies(t, n, 11, 1)
}

// P14.1: several nets side by side: none is told what is done to another.
func TestTwoNets(t *testing.T) {
	a, b := New(), New()
	sends(t, a, 1, 0, 1, []byte("a"))
	sends(t, b, 1, 1, 0, []byte("b"))
	sends(t, b, 2, 1, 1, []byte("c"))
	copies(t, b, 3, 1)
	waits(t, a, 1)
	copies(t, a, 2, 1)
	delivers(t, b, 1, 1, 0, []byte("b"))
	waits(t, a, 1, 2)
	waits(t, b, 2, 3)
	holds(t, a.Lose(0) == 0 && a.Lose(1) == 2, "Lose")
	waits(t, a)
	waits(t, b, 2, 3)
	sends(t, a, 3, 4, 5, nil)
	drops(t, b, 3)
	_, err := a.Deliver(2)
	holds(t, err == api.ErrGone, "a letter of another net:", err)
	delivers(t, b, 2, 1, 1, []byte("c"))
	delivers(t, a, 3, 4, 5, nil)
}

// P14.1: asking changes nothing, however often.
func TestAsking(t *testing.T) {
	p := newPair()
	for i := range 10 {
		p.do(t, step{call: "Send", from: i, to: i % 3, bytes: []byte{byte(i)}})
	}
	p.do(t, step{call: "Drop", number: 4})
	for _, i := range edges() {
		for range 3 {
			p.do(t, step{call: "Nth", number: i})
			p.same(t, i)
		}
	}
	for _, node := range []int{math.MinInt, -1, 3, 16, math.MaxInt} {
		p.do(t, step{call: "Lose", number: node})
		p.same(t, node)
	}
	p.drain(t, "asking")
}
