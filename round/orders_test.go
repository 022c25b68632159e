package round

import (
	"bollard/api"
	"fmt"
	"math"
	"slices"
	"testing"
)

// everyStep are all calls with those ballots, from each node and one beyond each end, with each of what may be heard.
func everyStep(nodes int, begins, asked []api.Ballot, all []heard) []step {
	var out []step
	for _, b := range begins {
		out = append(out, step{call: "Begin", b: b})
	}
	for _, b := range asked {
		for from := -1; from <= nodes; from++ {
			out = append(out, step{call: "Accepted", from: from, b: b})
			for _, one := range all {
				out = append(out, step{call: "Promise", from: from, b: b, accept: one.accepted, l: one.l})
			}
		}
	}
	return out
}

// everyOrder does every step to each pair that those steps lead to from that one on, and asks behind each that both are alike; it answers how many pairs there are of each stage.
func everyOrder(t *testing.T, p pair, steps []step) [5]int {
	t.Helper()
	seen, work, stages := map[string]int{p.state(): 1}, []pair{p}, [5]int{}
	for len(work) > 0 {
		p, work = work[len(work)-1], work[:len(work)-1]
		stages[p.round.Stage()]++
		before := p.state()
		for _, s := range steps {
			next := p.copy()
			answer := next.do(t, s)
			next.same(t, s)
			state := next.state()
			holds(t, (answer == "true" || answer == "<nil>") == (state != before), s, ":", answer, "and the round goes on as", state, "behind", before)
			if seen[state]++; seen[state] == 1 {
				work = append(work, next)
			}
		}
	}
	return stages
}

// P13.1: all calls in every order, however many, with ballots that are below, the same as and above one another, and what is heard alike: in all that rounds of few nodes come to by them they are as another implementation.
func TestEveryOrder(t *testing.T) {
	t.Parallel()
	has := with(row(1, 2), 0, own())
	begins := []api.Ballot{bal(1, 1), bal(1, 2), none(), bal(2, 16)}
	for nodes := 1; nodes <= 3; nodes++ {
		for _, reads := range []bool{false, true} {
			steps := everyStep(nodes, begins, begins[:3], []heard{{none(), nil}, {none(), row(9)}, {bal(1, 0), row(1)}, {bal(1, 0), has}, {bal(0, 1), row(3)}})
			stages := everyOrder(t, newPair(t, nodes, own(), reads), steps)
			holds(t, stages[1] >= 2 && stages[2] > 4 && stages[3] > 4 && stages[4] == 0, "pairs of each stage:", stages)
		}
	}
}

// P13.1: the same with more nodes and fewer kinds of what is heard.
func TestEveryOrderMore(t *testing.T) {
	t.Parallel()
	begins := []api.Ballot{bal(3, 0), bal(4, 0)}
	for nodes := 4; nodes <= 5; nodes++ {
		steps := everyStep(nodes, begins, begins, []heard{{none(), nil}, {bal(2, 0), row(1)}})
		stages := everyOrder(t, newPair(t, nodes, own(), false), steps)
		holds(t, stages[1] > 20 && stages[2] > 20 && stages[3] > 4, "pairs of each stage:", stages)
	}
}

// P13.1: the same with ledgers without room.
func TestEveryOrderFull(t *testing.T) {
	t.Parallel()
	full := floors(maxLedger)
	for nodes := 1; nodes <= 3; nodes++ {
		begins := []api.Ballot{bal(3, 0), bal(4, 0)}[:2-nodes/3]
		steps := everyStep(nodes, begins, begins, []heard{{none(), nil}, {bal(1, 0), full}, {bal(2, 0), with(full, 4, own())}})
		stages := everyOrder(t, newPair(t, nodes, own(), false), steps)
		holds(t, stages[1] > 0 && stages[2] > 1 && stages[3] > 1 && stages[4] > 0, "pairs of each stage:", stages)
	}
}

// drawn draws steps that come to rounds.
type drawn struct{ n func(int) int }

// ballot is mostly the one that is asked for, or one beside it, sometimes one at the edges.
func (d drawn) ballot(b api.Ballot) api.Ballot {
	switch {
	case d.n(12) == 0:
		return bal(b.Round+d.n(3)-1, b.Node+d.n(3)-1)
	case d.n(60) == 0:
		return ballots()[d.n(len(ballots()))]
	}
	return b
}

// from is mostly a node's number.
func (d drawn) from(nodes int) int {
	if d.n(12) == 0 {
		return []int{math.MinInt, -1, nodes, nodes + 1, 16, math.MaxInt}[d.n(6)]
	}
	return d.n(nodes)
}

// ledger is one of few commands, among which the round's own one stands sometimes.
func (d drawn) ledger() []api.Command {
	var out []api.Command
	for range d.n(5) {
		c := odd(d.n(6))
		if d.n(6) == 0 {
			c = own()
		}
		out = append(out, c)
	}
	return out
}

// step is one that comes to a round with that ballot.
func (d drawn) step(nodes int, b api.Ballot) step {
	switch {
	case b == none() || d.n(4*nodes) == 0:
		return step{call: "Begin", b: d.ballot(bal(b.Round+d.n(2), d.n(16)))}
	case d.n(2) == 0:
		return step{call: "Accepted", from: d.from(nodes), b: d.ballot(b)}
	}
	return step{call: "Promise", from: d.from(nodes), b: d.ballot(b), accept: d.ballot(bal(d.n(3), d.n(3))), l: d.ledger()}
}

// P13.1: long rows of all calls on several rounds side by side, two of them alike, none of which is told what comes to another.
func TestManyCalls(t *testing.T) {
	r := source()
	d, stages := drawn{r.IntN}, [5]int{}
	for range 150 {
		nodes := 1 + r.IntN(16)
		rounds := []pair{newPair(t, nodes, own(), false), newPair(t, nodes, own(), false), newPair(t, nodes, put(1), r.IntN(2) == 0), newPair(t, 1+r.IntN(16), odd(1), true)}
		for i := range 150 {
			p := rounds[r.IntN(len(rounds))]
			s := d.step(p.plain.nodes, p.plain.ballot())
			p.do(t, s)
			for _, other := range rounds {
				other.same(t, fmt.Sprint(i, " calls, the last ", s))
			}
		}
		for _, p := range rounds {
			stages[p.round.Stage()]++
		}
	}
	holds(t, stages[1] > 20 && stages[2] > 20 && stages[3] > 200, "rounds that ended in each stage:", stages)
}

// P13.1, rule 8: two rounds to which the same comes tell the same, whatever comes to others in between.
func TestSameAgain(t *testing.T) {
	r := source()
	d := drawn{r.IntN}
	for range 50 {
		nodes := 1 + r.IntN(5)
		var steps []step
		first, second := newPair(t, nodes, own(), false), newPair(t, nodes, own(), false)
		for range 60 {
			steps = append(steps, d.step(nodes, first.plain.ballot()))
			first.do(t, steps[len(steps)-1])
		}
		other := newPair(t, nodes, put(2), false)
		for _, s := range steps {
			other.do(t, d.step(nodes, other.plain.ballot()))
			second.do(t, s)
		}
		holds(t, told(first.round) == told(second.round), told(first.round), "and", told(second.round))
	}
}

// P13.2: over long rows of calls a round goes on from stage to stage only behind answers of more than half that were taken, each of another node; its ledger goes on with the newest that it was told, and has its command.
func TestOnlyBehindHalf(t *testing.T) {
	r := source()
	d := drawn{r.IntN}
	ended := 0
	for range 300 {
		nodes := 1 + r.IntN(16)
		round := newRound(t, nodes, own(), false)
		w := &watched{Round: round}
		for range 40 + 20*nodes {
			w.step(t, d.step(nodes, round.Ballot()))
		}
		if round.Stage() == StageDone {
			ended++
		}
	}
	holds(t, ended > 100, "rounds that are done:", ended)
}

// watched is a round, and which answers it was seen to take since it began.
type watched struct {
	*Round
	promises, accepts []int
	heard             []heard
}

func (w *watched) step(t *testing.T, s step) {
	t.Helper()
	switch s.call {
	case "Begin":
		if w.Begin(s.b) == nil {
			w.promises, w.accepts, w.heard = nil, nil, nil
		}
	case "Promise":
		if w.Promise(s.from, s.b, s.accept, s.l) {
			w.promises, w.heard = append(w.promises, s.from), append(w.heard, heard{s.accept, s.l})
		}
	case "Accepted":
		if w.Accepted(s.from, s.b) {
			w.accepts = append(w.accepts, s.from)
		}
	}
	for _, answers := range [][]int{w.promises, w.accepts} {
		holds(t, len(slices.Compact(slices.Sorted(slices.Values(answers)))) == len(answers), "a node's answer counts twice:", answers)
	}
	if w.Stage() == StageTell || w.Stage() == StageDone {
		holds(t, 2*len(w.promises) > w.nodes, "promises:", w.promises, "of", w.nodes)
		w.ask(t)
	}
	holds(t, (w.Stage() == StageDone) == (2*len(w.accepts) > w.nodes), "stage", w.Stage(), "acceptings:", w.accepts, "of", w.nodes)
}

// ask asks the ledger that the round lets be accepted.
func (w *watched) ask(t *testing.T) {
	t.Helper()
	newest := heard{}
	for _, one := range w.heard {
		if plainCompare(one.accepted, newest.accepted) > 0 {
			newest = one
		}
	}
	l, ahead := w.Ledger(), times(newest.l, own().Id)
	now := times(l, own().Id)
	holds(t, len(l) >= len(newest.l) && text(l[:len(newest.l)]) == text(newest.l), "the ledger doesn't go on with the newest one:", text(l))
	holds(t, now == max(1, ahead) && len(l)-len(newest.l) == now-ahead && l[w.Place()-1].Id == own().Id, "the command is there", now, "times, at", w.Place())
}

// times is how many commands of a ledger have the id.
func times(l []api.Command, id api.Id) int {
	n := 0
	for _, c := range l {
		if c.Id == id {
			n++
		}
	}
	return n
}
