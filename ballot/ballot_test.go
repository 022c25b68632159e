package ballot

import (
	"bollard/api"
	"math"
	"testing"
)

// edges are ballots with each number below, at and above its least and its greatest, in all pairs.
func edges() []api.Ballot {
	var out []api.Ballot
	for _, round := range []int{math.MinInt, -1, 0, 1, 2, 7, api.MaxTime - 1, api.MaxTime, api.MaxTime + 1, math.MaxInt} {
		for _, node := range []int{math.MinInt, -1, 0, 1, 7, 14, 15, 16, math.MaxInt} {
			out = append(out, bal(round, node))
		}
	}
	return out
}

// P9.1: the chapter's examples.
func TestExamples(t *testing.T) {
	a := newAcceptor(t, 3)
	for range 2 {
		if b, l, err := a.Prepare(bal(1, 0)); b != none() || len(l) != 0 || err != nil {
			t.Error("Prepare({1, 0}):", b, l, err)
		}
	}
	if err := a.Accept(bal(1, 0), row(1, 2)); err != nil {
		t.Error("Accept({1, 0}, L):", err)
	}
	if b, l, err := a.Prepare(bal(2, 1)); b != bal(1, 0) || text(l) != text(row(1, 2)) || err != nil {
		t.Error("Prepare({2, 1}):", b, l, err)
	}
	if err := a.Accept(bal(1, 0), row(3)); err != api.ErrBallot {
		t.Error("Accept({1, 0}, M):", err)
	}
	for _, want := range []int{3, 4} {
		if b, err := a.Claim(none()); b != bal(want, 3) || err != nil {
			t.Error("Claim(none):", b, err)
		}
	}
	if Half(4) != 3 || Half(5) != 3 {
		t.Error("Half:", Half(4), Half(5))
	}
}

// P9.1: Above of some pairs, one number deciding at a time.
func TestAboveSome(t *testing.T) {
	for _, c := range []struct {
		a, b api.Ballot
		want bool
	}{
		{bal(2, 0), bal(1, 15), true}, {bal(1, 15), bal(2, 0), false},
		{bal(2, 3), bal(2, 2), true}, {bal(2, 2), bal(2, 3), false}, {bal(2, 2), bal(2, 2), false},
		{bal(1, 0), none(), true}, {none(), bal(1, 0), false}, {none(), none(), false},
		{bal(0, 1), none(), true}, {none(), bal(0, -1), true}, {none(), bal(-1, 99), true},
		{bal(1, math.MinInt), bal(0, math.MaxInt), true}, {bal(math.MinInt, 0), bal(math.MaxInt, 0), false},
	} {
		if got := Above(c.a, c.b); got != c.want {
			t.Errorf("Above(%v, %v): %v", c.a, c.b, got)
		}
	}
}

// P9.1: Above of all pairs of ballots at the edges, against another implementation; of two that differ just one is above.
func TestAboveEdges(t *testing.T) {
	for _, a := range edges() {
		for _, b := range edges() {
			if got, want := Above(a, b), plainAbove(a, b); got != want {
				t.Errorf("Above(%v, %v): %v", a, b, got)
			}
			if (a != b) != (Above(a, b) != Above(b, a)) {
				t.Errorf("%v and %v: %v and %v", a, b, Above(a, b), Above(b, a))
			}
		}
	}
}

// P9.1: more than half, counted: the least number that two groups of it must meet in.
func TestHalf(t *testing.T) {
	for _, n := range []int{0, -1, -2, -3, -100, math.MinInt + 1, math.MinInt} {
		if got := Half(n); got != 0 {
			t.Errorf("Half(%d): %d", n, got)
		}
	}
	for n, want := range []int{0, 1, 2, 2, 3, 3, 4, 4, 5, 5, 6, 6, 7, 7, 8, 8, 9} {
		if got := Half(n); got != want {
			t.Errorf("Half(%d): %d", n, got)
		}
	}
	for n := 1; n <= 2000; n++ {
		if h := Half(n); 2*h <= n || 2*(h-1) > n {
			t.Errorf("Half(%d): %d", n, h)
		}
	}
	if Half(math.MaxInt) != 1<<62 || Half(math.MaxInt-1) != 1<<62 || Half(math.MaxInt-2) != 1<<62-1 {
		t.Error("Half of the greatest numbers:", Half(math.MaxInt), Half(math.MaxInt-1), Half(math.MaxInt-2))
	}
}

// P9.1: New of each node's number, and of what is none.
func TestNew(t *testing.T) {
	for node := -20; node <= 40; node++ {
		a, err := New(node)
		if legal := node >= 0 && node <= 15; !legal {
			if a != nil || err != api.ErrNumber {
				t.Error("no node's number:", node, a, err)
			}
			continue
		}
		if a == nil || err != nil {
			t.Fatal("a node's number:", node, err)
		}
		if b, l := a.Accepted(); a.Promised() != none() || b != none() || len(l) != 0 {
			t.Error("a new acceptor:", told(a))
		}
		if b, err := a.Claim(none()); b != bal(1, node) || err != nil {
			t.Error("a new acceptor's first claim:", b, err)
		}
	}
	for _, node := range []int{math.MinInt, math.MaxInt, api.MaxTime} {
		if a, err := New(node); a != nil || err != api.ErrNumber {
			t.Error("no node's number:", node, a, err)
		}
	}
}
