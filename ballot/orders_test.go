package ballot

import (
	"bollard/api"
	"fmt"
	"math"
	"testing"
)

// everyRow does to new pairs each row that begins so and has at most left steps more, and asks behind each step that both are alike.
func everyRow(t *testing.T, node int, calls, steps []step, left int) {
	t.Helper()
	p := newPair(t, node)
	for _, s := range steps {
		p.do(t, s)
	}
	p.same(t, steps)
	if left == 0 {
		return
	}
	for _, s := range calls {
		everyRow(t, node, calls, append(steps[:len(steps):len(steps)], s), left-1)
	}
}

// P9.1: all calls in every order, with ballots that are below, the same as and above one another, against another implementation.
func TestEveryOrder(t *testing.T) {
	calls := []step{
		{call: "Prepare", ballot: bal(1, 0)}, {call: "Prepare", ballot: bal(1, 2)}, {call: "Prepare", ballot: bal(2, 1)}, {call: "Prepare"},
		{call: "Accept", ballot: bal(1, 0), ledger: row(1)}, {call: "Accept", ballot: bal(1, 2), ledger: row(1, 2)}, {call: "Accept", ballot: bal(2, 1)},
		{call: "Claim"}, {call: "Claim", ballot: bal(2, 0)}, {call: "Claim", ballot: bal(-1, 0)},
	}
	everyRow(t, 1, calls, nil, 4)
}

// P9.1: the same at the greatest Round.
func TestEveryOrderGreatest(t *testing.T) {
	const most = api.MaxTime
	calls := []step{
		{call: "Prepare", ballot: bal(most-1, 3)}, {call: "Prepare", ballot: bal(most, 3)}, {call: "Prepare", ballot: bal(most+1, 3)}, {call: "Prepare", ballot: bal(most, 16)},
		{call: "Accept", ballot: bal(most-1, 15), ledger: row(1, 2)}, {call: "Accept", ballot: bal(most, 2), ledger: row(3)}, {call: "Accept", ballot: bal(most, 15)},
		{call: "Claim"}, {call: "Claim", ballot: bal(most-1, 0)}, {call: "Claim", ballot: bal(most-2, 0)}, {call: "Claim", ballot: bal(most, 0)}, {call: "Claim", ballot: bal(most+1, 0)},
	}
	everyRow(t, 15, calls, nil, 4)
}

// someBallot is mostly one near those that acceptors have come to, sometimes one at the edges.
func someBallot(at int, n func(int) int) api.Ballot {
	rounds := []int{math.MinInt, -1, 0, 1, api.MaxTime - 1, api.MaxTime, api.MaxTime + 1, math.MaxInt}
	nodes := []int{math.MinInt, -1, 15, 16, math.MaxInt}
	b := bal(max(at/6-3, 0)+n(8), n(16))
	if n(40) == 0 {
		b.Node = nodes[n(len(nodes))]
	}
	if n(300) == 0 {
		b.Round = rounds[n(len(rounds))]
	}
	return b
}

func someStep(at int, n func(int) int) step {
	calls := []string{"Prepare", "Prepare", "Prepare", "Accept", "Accept", "Accept", "Claim", "Promised", "Accepted"}
	s := step{call: calls[n(len(calls))], ballot: someBallot(at, n)}
	for range n(4) {
		s.ledger = append(s.ledger, command(n(100)))
	}
	return s
}

// P9.1: long rows of all calls on several acceptors side by side, two of them of one node, none of which is told what is done to another.
func TestManyCalls(t *testing.T) {
	r := source()
	for range 60 {
		acceptors := []pair{newPair(t, 0), newPair(t, 0), newPair(t, 15), newPair(t, r.IntN(16))}
		for i := range 250 {
			s := someStep(i, r.IntN)
			acceptors[r.IntN(len(acceptors))].do(t, s)
			for _, p := range acceptors {
				p.same(t, fmt.Sprint(i, " calls, the last ", s))
			}
		}
	}
}

// watched is an acceptor, and what it was seen to promise, to accept and to claim.
type watched struct {
	*Acceptor
	promised, accepted api.Ballot
	claimed            map[api.Ballot]int
}

// watch asks that nothing sinks and that what is accepted isn't above what is promised.
func (w *watched) watch(t *testing.T, s step) {
	t.Helper()
	promised := w.Promised()
	accepted, _ := w.Accepted()
	if plainAbove(w.promised, promised) || plainAbove(w.accepted, accepted) || plainAbove(accepted, promised) {
		t.Fatalf("%v: promised %v, then %v; accepted %v, then %v", s, w.promised, promised, w.accepted, accepted)
	}
	w.promised, w.accepted = promised, accepted
}

// P9.2, P9.3: over long rows of calls nothing sinks, and each claim is new and above all that was promised.
func TestNeverBack(t *testing.T) {
	r := source()
	for range 60 {
		w := &watched{Acceptor: newAcceptor(t, r.IntN(16)), claimed: map[api.Ballot]int{}}
		for i := range 400 {
			s := someStep(i, r.IntN)
			switch s.call {
			case "Prepare":
				w.Prepare(s.ballot)
			case "Accept":
				w.Accept(s.ballot, s.ledger)
			case "Claim":
				b, err := w.Claim(s.ballot)
				if err == nil && (w.claimed[b] != 0 || !plainAbove(b, w.promised) || !plainLegal(b)) {
					t.Fatalf("%v: %v, claimed %d times before, above %v", s, b, w.claimed[b], w.promised)
				}
				w.claimed[b]++
			}
			w.watch(t, s)
		}
		if len(w.claimed) < 3 {
			t.Error("too few claims:", w.claimed)
		}
	}
}
