package ballot

import (
	"bollard/api"
	"math"
	"testing"
)

// claims asks that Claim answers the Round on the acceptor's own node.
func claims(t *testing.T, a *Acceptor, above api.Ballot, round int) {
	t.Helper()
	if b, err := a.Claim(above); b != bal(round, a.node) || err != nil {
		t.Fatalf("Claim(%v): %v, %v in the place of Round %d", above, b, err, round)
	}
}

// full asks that Claim is refused, and that nothing changes by it.
func full(t *testing.T, a *Acceptor, above api.Ballot) {
	t.Helper()
	before := told(a)
	if b, err := a.Claim(above); b != none() || err != api.ErrFull {
		t.Fatalf("Claim(%v): %v, %v", above, b, err)
	}
	if told(a) != before {
		t.Fatalf("Claim(%v) changes: %s", above, told(a))
	}
}

// P9.1, P9.3: what was promised, what was claimed and what is handed in are the greatest in turn.
func TestClaim(t *testing.T) {
	a := newAcceptor(t, 6)
	claims(t, a, none(), 1)
	claims(t, a, none(), 2)
	claims(t, a, bal(9, 0), 10)
	claims(t, a, bal(9, 0), 11)
	claims(t, a, bal(10, 15), 12)
	_, _, err := a.Prepare(bal(20, 15))
	good(t, err)
	claims(t, a, bal(5, 0), 21)
	claims(t, a, none(), 22)
	good(t, a.Accept(bal(30, 0), row(1)))
	claims(t, a, bal(29, 15), 31)
	claims(t, a, bal(31, 0), 32)
	claims(t, a, bal(32, 6), 33)
	claims(t, a, bal(34, 6), 35)
	good(t, a.Accept(bal(33, 2), row(2)))
	claims(t, a, none(), 36)
	if err := a.Accept(bal(32, 0), row(3)); err != api.ErrBallot {
		t.Error("Accept:", err)
	}
	claims(t, a, none(), 37)
}

// P9.1: claiming promises and accepts nothing.
func TestClaimAlone(t *testing.T) {
	a := holding(t)
	before := told(a)
	claims(t, a, none(), 10)
	claims(t, a, bal(100, 2), 101)
	if told(a) != before {
		t.Error("Claim changes:", told(a))
	}
	if _, _, err := a.Prepare(bal(7, 7)); err != nil {
		t.Error("a ballot below what was claimed:", err)
	}
}

// P9.1: above's Round doesn't count, if it isn't 0 to MaxTime; its Node never does.
func TestClaimAbove(t *testing.T) {
	for _, node := range []int{math.MinInt, -1, 0, 3, 15, 16, math.MaxInt} {
		for _, round := range []int{math.MinInt, math.MinInt + 1, -api.MaxTime, -2, -1, 0, api.MaxTime + 1, api.MaxTime + 2, 1 << 60, math.MaxInt - 1, math.MaxInt} {
			claims(t, newAcceptor(t, 3), bal(round, node), 1)
			claims(t, holding(t), bal(round, node), 10)
		}
		for _, round := range []int{9, 10, 11, 500, 1 << 32, api.MaxTime - 2, api.MaxTime - 1} {
			claims(t, newAcceptor(t, 3), bal(round, node), round+1)
			claims(t, holding(t), bal(round, node), max(round, 9)+1)
		}
		full(t, newAcceptor(t, 3), bal(api.MaxTime, node))
	}
}

// P9.1, rule 3: no Round is above MaxTime; a claim that is refused has claimed nothing, and one below it is still there.
func TestClaimFull(t *testing.T) {
	a := newAcceptor(t, 15)
	full(t, a, bal(api.MaxTime, 0))
	claims(t, a, none(), 1)
	full(t, a, bal(api.MaxTime, 0))
	claims(t, a, bal(api.MaxTime+1, 0), 2)
	claims(t, a, bal(api.MaxTime-2, 0), api.MaxTime-1)
	full(t, a, bal(api.MaxTime, 0))
	claims(t, a, none(), api.MaxTime)
	for range 3 {
		full(t, a, none())
		full(t, a, bal(-1, 0))
		full(t, a, bal(api.MaxTime+1, 0))
		full(t, a, bal(api.MaxTime, 15))
	}
	if b, err := a.Claim(none()); err != api.ErrFull {
		t.Error(b, err)
	}
	good(t, a.Accept(bal(api.MaxTime, 15), row(1)))
}

// P9.1: the same where it is the promise that stands at the greatest Round, or one below.
func TestClaimPromised(t *testing.T) {
	for name, call := range both() {
		a := newAcceptor(t, 2)
		good(t, call(t, a, bal(api.MaxTime-1, 15)))
		claims(t, a, none(), api.MaxTime)
		full(t, a, none())
		a = newAcceptor(t, 2)
		good(t, call(t, a, bal(api.MaxTime-1, 0)))
		full(t, a, bal(api.MaxTime, 0))
		claims(t, a, bal(math.MaxInt, 0), api.MaxTime)
		a = newAcceptor(t, 2)
		good(t, call(t, a, bal(api.MaxTime, 0)))
		full(t, a, none())
		if err := call(t, a, bal(api.MaxTime, 15)); err != nil {
			t.Error(name, "behind a claim that was refused:", err)
		}
	}
}
