package net

import (
	"bollard/api"
	"bytes"
	"encoding/binary"
	"math/rand/v2"
	"slices"
	"testing"
)

// fate is what became of one letter: how often it was sent and doubled, lost, and delivered.
type fate struct {
	from, to              int
	bytes                 []byte
	laid, lost, delivered int
}

// tally counts what becomes of the letters of one net. A letter's first four bytes are its place in fates.
type tally struct {
	net   *Net
	fates []*fate
	which map[int]int // the place in fates of the letter with that number
}

func (c *tally) send(t *testing.T, r *rand.Rand) {
	b := binary.BigEndian.AppendUint32(nil, uint32(len(c.fates)))
	f := &fate{from: r.IntN(maxWidth), to: r.IntN(maxWidth), bytes: append(b, someBytes(r, r.IntN(40))...), laid: 1}
	number, err := c.net.Send(f.from, f.to, bytes.Clone(f.bytes))
	holds(t, err == nil, "Send:", err)
	c.lay(t, number, len(c.fates))
	c.fates = append(c.fates, f)
}

// lay notes a number that was given out, which must be a new one.
func (c *tally) lay(t *testing.T, number, place int) {
	t.Helper()
	holds(t, number == len(c.which)+1, "a number is given out that isn't the next:", number)
	c.which[number] = place
}

func (c *tally) copy(t *testing.T, number int) {
	other, err := c.net.Copy(number)
	holds(t, err == nil, "Copy:", err)
	place := c.which[number]
	c.lay(t, other, place)
	c.fates[place].laid++
}

func (c *tally) deliver(t *testing.T, number int) {
	l, err := c.net.Deliver(number)
	holds(t, err == nil && l.Number == number && len(l.Bytes) >= 4, "Deliver:", l, err)
	f := c.fates[binary.BigEndian.Uint32(l.Bytes)]
	holds(t, f == c.fates[c.which[number]], "another letter is delivered by", number)
	holds(t, l.From == f.from && l.To == f.to && bytes.Equal(l.Bytes, f.bytes), "what is delivered isn't what was sent:", l, *f)
	f.delivered++
}

func (c *tally) drop(t *testing.T, number int) {
	err := c.net.Drop(number)
	holds(t, err == nil, "Drop:", err)
	c.fates[c.which[number]].lost++
}

// lose counts the lost by the numbers that wait no more.
func (c *tally) lose(t *testing.T, node int) {
	before := c.net.Waiting()
	lost := c.net.Lose(node)
	for _, number := range c.net.Waiting() {
		holds(t, c.fates[c.which[number]].to != node, "a letter isn't lost:", number)
		before = slices.DeleteFunc(before, func(n int) bool { return n == number })
	}
	holds(t, lost == len(before), "Lose answers", lost, "where", len(before), "wait no more")
	for _, number := range before {
		f := c.fates[c.which[number]]
		holds(t, f.to == node, "a letter to another node is lost:", number)
		f.lost++
	}
}

// P14.2: a letter is delivered as often as it was sent and doubled, less what was lost, with the bytes that were sent, in whichever order.
func TestTally(t *testing.T) {
	r := source()
	for turn := range 200 {
		c := &tally{net: New(), which: map[int]int{}}
		for range 50 + turn*4 {
			c.turn(t, r)
		}
		for number, ok := c.net.Nth(turn); ok; number, ok = c.net.Nth(r.Int()) {
			c.deliver(t, number)
		}
		for number := range c.which {
			_, err := c.net.Deliver(number)
			holds(t, err == api.ErrGone, "a letter is delivered once more:", number, err)
		}
		for place, f := range c.fates {
			holds(t, f.delivered == f.laid-f.lost, "letter", place, "was sent and doubled, lost, delivered:", f.laid, f.lost, f.delivered)
		}
	}
}

// turn does one call that was drawn.
func (c *tally) turn(t *testing.T, r *rand.Rand) {
	number, ok := c.net.Nth(r.Int() - r.Int())
	switch draw := r.IntN(20); {
	case draw < 7 || !ok:
		c.send(t, r)
	case draw < 12:
		c.copy(t, number)
	case draw < 16:
		c.deliver(t, number)
	case draw < 19:
		c.drop(t, number)
	default:
		c.lose(t, r.IntN(maxWidth))
	}
}
