package net

import (
	"bollard/api"
	"testing"
)

// filled is a net in which that many letters wait, numbered from 1 on; letter i goes from node i%16 to node i%7, with the bytes of lettered.
func filled(t *testing.T, letters int) *Net {
	t.Helper()
	n := New()
	for i := 1; i <= letters; i++ {
		sends(t, n, i, i%16, i%7, lettered(i))
	}
	return n
}

func lettered(i int) []byte { return []byte{byte(i), byte(i >> 8)} }

// refusesFull asks that Send, and Copy of letters that wait, are refused with ErrFull; that Send with wrong numbers is refused with ErrNumber, and Copy of a letter that doesn't wait with ErrGone, all the same.
func refusesFull(t *testing.T, n *Net, gone ...int) {
	t.Helper()
	all := n.Waiting()
	holds(t, len(all) == maxLetters, "letters that wait:", len(all))
	for _, b := range [][]byte{nil, {1}, make([]byte, 1000)} {
		number, err := n.Send(0, 1, b)
		holds(t, number == 0 && err == api.ErrFull, "Send to a full net:", number, err)
		for _, wrong := range [][2]int{{-1, 0}, {0, -1}, {16, 15}, {15, 16}, {-1, 16}} {
			number, err = n.Send(wrong[0], wrong[1], b)
			holds(t, number == 0 && err == api.ErrNumber, "Send with wrong numbers to a full net:", number, err)
		}
	}
	for _, number := range []int{all[0], all[1], all[maxLetters/2], all[maxLetters-2], all[maxLetters-1]} {
		other, err := n.Copy(number)
		holds(t, other == 0 && err == api.ErrFull, "Copy where the net is full:", other, err)
	}
	for _, number := range append(gone, never()[:7]...) {
		other, err := n.Copy(number)
		holds(t, other == 0 && err == api.ErrGone, "Copy of", number, "that doesn't wait, where the net is full:", other, err)
	}
	waits(t, n, all...)
}

// P14.1: MaxLetters letters wait, and not one more, by Send or by Copy; the refused calls give out no number.
func TestFull(t *testing.T) {
	for _, byCopy := range []bool{false, true} {
		n := filled(t, maxLetters-1)
		waits(t, n, upTo(1, maxLetters-1)...)
		for _, wrong := range [][2]int{{-1, 0}, {0, 16}} {
			number, err := n.Send(wrong[0], wrong[1], nil)
			holds(t, number == 0 && err == api.ErrNumber, "Send with wrong numbers:", number, err)
		}
		if byCopy {
			copies(t, n, maxLetters, 17)
		} else {
			sends(t, n, maxLetters, 1, 3, lettered(17))
		}
		refusesFull(t, n, maxLetters+1, maxLetters+2)
		delivers(t, n, maxLetters, 1, 3, lettered(17))
		sends(t, n, maxLetters+1, 2, 2, []byte{9})
		refusesFull(t, n, maxLetters, maxLetters+2)
		delivers(t, n, maxLetters+1, 2, 2, []byte{9})
		for i := maxLetters - 1; i > 0; i-- {
			delivers(t, n, i, i%16, i%7, lettered(i))
		}
		waits(t, n)
	}
}

// P14.1: Deliver, Drop and Lose make room for just as many letters as they take, wherever those stood.
func TestRoom(t *testing.T) {
	n := filled(t, maxLetters)
	next := maxLetters + 1
	for _, number := range []int{1, 2, 500, maxLetters / 2, maxLetters - 1, maxLetters} {
		delivers(t, n, number, number%16, number%7, lettered(number))
		copies(t, n, next, 3)
		refusesFull(t, n, number)
		drops(t, n, next)
		sends(t, n, next+1, 8, 8, nil)
		refusesFull(t, n, number, next)
		next += 2
	}
	lost := n.Lose(3)
	for range lost {
		sends(t, n, next, 3, 4, nil)
		next++
	}
	refusesFull(t, n, 3, 10, 4091)
	// 585 of the first MaxLetters numbers leave 3 of 7, and 500, one of these, was delivered.
	holds(t, lost == 584, "letters that are lost:", lost)
	holds(t, n.Lose(9) == 0, "letters to a node that none were sent to")
	refusesFull(t, n, next)
}

// P14.1: a full net of which all is lost takes MaxLetters letters again, with numbers that rise on.
func TestFullAgain(t *testing.T) {
	n := New()
	for turn := range 3 {
		first := turn*maxLetters + 1
		for i := range maxLetters {
			if i%2 == 0 {
				sends(t, n, first+i, 1, 2, []byte{byte(turn)})
			} else {
				copies(t, n, first+i, first+i-1)
			}
		}
		refusesFull(t, n, first-1, first+maxLetters)
		holds(t, n.Lose(1) == 0 && n.Lose(2) == maxLetters, "Lose")
		waits(t, n)
	}
}

// P14.2: one long letter that is doubled until the net is full, and is then delivered: each time with all its bytes.
func TestLongLetter(t *testing.T) {
	b := someBytes(source(), 1<<17)
	n := New()
	sends(t, n, 1, 6, 5, b)
	for i := 2; i <= maxLetters; i++ {
		copies(t, n, i, i/2)
	}
	refusesFull(t, n, maxLetters+1)
	for _, number := range []int{2, 1, maxLetters, 1000, 3} {
		delivers(t, n, number, 6, 5, b)
	}
	holds(t, n.Lose(5) == maxLetters-5, "Lose")
}
