package net

import (
	"bytes"
	"slices"
	"testing"
)

// roomy is the list with spare room behind its length, filled with the byte.
func roomy(list []byte, fill byte) []byte {
	return append(bytes.Clone(list), bytes.Repeat([]byte{fill}, 80)...)[:len(list)]
}

func whole(list []byte) []byte { return list[:cap(list)] }

func overwrite(list []byte, fill byte) {
	for i := range whole(list) {
		whole(list)[i] = fill
	}
}

// clean asks that nothing is handed out behind a list's length.
func clean(t *testing.T, list []byte) {
	t.Helper()
	behind := whole(list)[len(list):]
	holds(t, bytes.Equal(behind, make([]byte, len(behind))), "something is handed out behind an answer")
}

// Rule 4: Send changes nothing of what it is handed, reads nothing behind it, and keeps none of it, also when it is refused.
func TestSendMemory(t *testing.T) {
	for _, size := range []int{0, 1, 5, 31, 32, 33, 1000, 70000} {
		b := someBytes(source(), size)
		list := roomy(b, 7)
		before := bytes.Clone(whole(list))
		n := New()
		sends(t, n, 1, 0, 1, list)
		sends(t, n, 2, 1, 0, list)
		copies(t, n, 3, 1)
		_, err := n.Send(16, 0, list)
		holds(t, err != nil && bytes.Equal(whole(list), before), "Send changes what it is handed:", err)
		overwrite(list, 9)
		copies(t, n, 4, 2)
		delivers(t, n, 1, 0, 1, b)
		delivers(t, n, 2, 1, 0, b)
		delivers(t, n, 3, 0, 1, b)
		l, err := n.Deliver(4)
		holds(t, err == nil && bytes.Equal(l.Bytes, b), "a letter that was doubled:", err)
		overwrite(l.Bytes, 8)
		holds(t, bytes.Equal(whole(list), bytes.Repeat([]byte{9}, cap(list))), "the net changes what Send was handed")
	}
}

// Rule 4: what Deliver answers shares memory with nothing: not with a letter like it, delivered ahead of it or behind it, or doubled from it later.
func TestDeliverMemory(t *testing.T) {
	for _, size := range []int{0, 1, 5, 31, 32, 33, 1000} {
		b := someBytes(source(), size)
		n := New()
		sends(t, n, 1, 3, 3, b)
		copies(t, n, 2, 1)
		copies(t, n, 3, 2)
		first, _ := n.Deliver(2)
		second, _ := n.Deliver(1)
		clean(t, first.Bytes)
		overwrite(first.Bytes, 8)
		holds(t, bytes.Equal(second.Bytes, b), "two letters that are delivered share memory")
		copies(t, n, 4, 3)
		third, _ := n.Deliver(3)
		overwrite(third.Bytes, 9)
		holds(t, bytes.Equal(second.Bytes, b), "two letters that are delivered share memory")
		delivers(t, n, 4, 3, 3, b)
		sends(t, n, 5, 3, 3, bytes.Repeat([]byte{6}, size))
		n.Lose(3)
		holds(t, bytes.Equal(second.Bytes, b), "what is done to a net changes what Deliver answered")
	}
}

// Rule 4: bytes that were delivered may be sent again, and sent on, as any others.
func TestSentOn(t *testing.T) {
	b := []byte("handed on and on")
	n, other := New(), New()
	sends(t, n, 1, 0, 1, b)
	l, _ := n.Deliver(1)
	sends(t, n, 2, 1, 2, l.Bytes)
	sends(t, other, 1, 1, 2, l.Bytes)
	overwrite(l.Bytes, 7)
	m, _ := n.Deliver(2)
	holds(t, bytes.Equal(m.Bytes, b), "bytes that were sent on change")
	overwrite(m.Bytes, 6)
	delivers(t, other, 1, 1, 2, b)
}

// Rule 4: what Waiting answers shares memory with nothing, and stays as it was, whatever is done to the net.
func TestWaitingMemory(t *testing.T) {
	n := New()
	for number := 1; number <= 9; number++ {
		sends(t, n, number, 0, number%2, nil)
	}
	first, second := n.Waiting(), n.Waiting()
	for i := range first[:cap(first)] {
		first[:cap(first)][i] = -1
	}
	holds(t, slices.Equal(second, upTo(1, 9)), "two answers of Waiting share memory:", second)
	waits(t, n, upTo(1, 9)...)
	delivers(t, n, 5, 0, 1, nil)
	drops(t, n, 1)
	sends(t, n, 10, 0, 0, nil)
	holds(t, slices.Equal(second, upTo(1, 9)), "what Waiting answered changes:", second)
	third := n.Waiting()
	behind := third[len(third):cap(third)]
	holds(t, slices.Equal(behind, make([]int, len(behind))), "something is handed out behind an answer")
	_ = append(third, 99)
	n.Lose(0)
	sends(t, n, 11, 0, 0, nil)
	holds(t, slices.Equal(third, []int{2, 3, 4, 6, 7, 8, 9, 10}), "what Waiting answered changes:", third)
	waits(t, n, 3, 7, 9, 11)
}

// No more is kept than the promises need: nothing is left of letters that wait no more.
func TestNothingLeft(t *testing.T) {
	ends := map[string]func(*Net){
		"Deliver": func(n *Net) { delivers(t, n, 2, 0, 2, []byte("two")) },
		"Drop":    func(n *Net) { drops(t, n, 1, 3) },
		"Lose":    func(n *Net) { holds(t, n.Lose(2) == 2, "Lose") },
		"all":     func(n *Net) { holds(t, n.Lose(1)+n.Lose(2)+n.Lose(3) == 4, "Lose of all") },
	}
	for name, end := range ends {
		n := New()
		sends(t, n, 1, 0, 1, []byte("one"))
		sends(t, n, 2, 0, 2, []byte("two"))
		sends(t, n, 3, 0, 3, []byte("three"))
		copies(t, n, 4, 2)
		end(n)
		for _, l := range n.letters[len(n.letters):cap(n.letters)] {
			holds(t, l == letter{}, "a letter is left behind", name, ":", l)
		}
	}
}
