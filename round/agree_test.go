package round

import (
	"bollard/api"
	"bollard/ballot"
	"bollard/ledger"
	"slices"
	"testing"
)

// letter is a message between a round and a node's acceptor.
type letter struct {
	call        string // what it leads to where it is delivered
	round, node int
	b, accepted api.Ballot
	l           []api.Command
}

// world is a number of acceptors and the rounds that ask them. A careless world tells rounds nothing of what was accepted.
type world struct {
	acceptors []*ballot.Acceptor
	rounds    []*Round
	careless  bool
}

func newWorld(t *testing.T, nodes int) *world {
	t.Helper()
	w := &world{}
	for i := range nodes {
		a, err := ballot.New(i)
		holds(t, err == nil, "an acceptor:", err)
		w.acceptors = append(w.acceptors, a)
	}
	return w
}

// join puts a round there.
func (w *world) join(t *testing.T, c api.Command, reads bool) *Round {
	t.Helper()
	r := newRound(t, len(w.acceptors), c, reads)
	w.rounds = append(w.rounds, r)
	return r
}

// copy is another world that is as far; the one ahead stays as it is. (Neither an acceptor nor a round writes into a list that it holds.)
func (w *world) copy() *world {
	out := &world{careless: w.careless}
	for _, a := range w.acceptors {
		other := *a
		out.acceptors = append(out.acceptors, &other)
	}
	for _, r := range w.rounds {
		out.rounds = append(out.rounds, as(r))
	}
	return out
}

// deliver brings a letter to its acceptor or its round, and answers the letters to which it leads.
func (w *world) deliver(x letter) []letter {
	a, r := w.acceptors[x.node], w.rounds[x.round]
	was := r.Stage()
	switch x.call {
	case "Prepare":
		accepted, l, err := a.Prepare(x.b)
		if err != nil {
			return nil
		}
		return []letter{{"Promise", x.round, x.node, x.b, accepted, l}}
	case "Accept":
		if a.Accept(x.b, x.l) != nil {
			return nil
		}
		return []letter{{call: "Accepted", round: x.round, node: x.node, b: x.b}}
	case "Promise":
		if w.careless {
			x.accepted, x.l = none(), nil
		}
		r.Promise(x.node, x.b, x.accepted, x.l)
	case "Accepted":
		r.Accepted(x.node, x.b)
	}
	if was == StageAsk && r.Stage() == StageTell {
		return w.toMissing(x.round)
	}
	return nil
}

// toMissing are the letters of a round to those that haven't answered in its stage.
func (w *world) toMissing(i int) []letter {
	var out []letter
	r := w.rounds[i]
	for node := range r.Missing() {
		x := letter{call: "Prepare", round: i, node: node, b: r.Ballot()}
		if r.Stage() == StageTell {
			x.call, x.l = "Accept", r.Ledger()
		}
		out = append(out, x)
	}
	return out
}

// agreed are the ledgers of the rounds that are done.
func (w *world) agreed() [][]api.Command {
	var out [][]api.Command
	for _, r := range w.rounds {
		if r.Stage() == StageDone {
			out = append(out, r.Ledger())
		}
	}
	return out
}

// agrees tells whether of any two ledgers one is the beginning of the other.
func agrees(all [][]api.Command) bool {
	for i, a := range all {
		for _, b := range all[:i] {
			if !ledger.Begins(a, b) && !ledger.Begins(b, a) {
				return false
			}
		}
	}
	return true
}

// ask lets a round begin with a ballot and go on by those nodes alone, as far as it comes; no letter is lost.
func (w *world) ask(t *testing.T, i int, b api.Ballot, promise, accept []int) *Round {
	t.Helper()
	begin(t, w.rounds[i], b)
	work := w.toMissing(i)
	for len(work) > 0 {
		x := work[0]
		work = work[1:]
		if nodes := map[string][]int{"Prepare": promise, "Accept": accept}[x.call]; nodes == nil || slices.Contains(nodes, x.node) {
			work = append(work, w.deliver(x)...)
		}
	}
	return w.rounds[i]
}

// P13.3: one of three accepts a command, then its round is heard of no more. If the next round hears of that acceptor, the command is there, and from then on for all; if it doesn't, the command never comes.
func TestHalfAccepted(t *testing.T) {
	for _, hears := range []bool{true, false} {
		w := newWorld(t, 3)
		for i, c := range []api.Command{put(1), put(2), {}, {}, put(3)} {
			w.join(t, c, i == 2 || i == 3)
		}
		all := upTo(0, 3)
		tells(t, w.ask(t, 0, bal(1, 0), all, all), 3, bal(1, 0), 1, 1, nil, []api.Command{put(1)})
		tells(t, w.ask(t, 1, bal(2, 0), all, []int{0}), 2, bal(2, 0), 1, 2, []int{1, 2}, []api.Command{put(1), put(2)})
		want, half := []api.Command{put(1)}, []int{1, 2}
		if hears {
			want, half = []api.Command{put(1), put(2)}, []int{0, 1}
		}
		tells(t, w.ask(t, 2, bal(3, 1), half, []int{1, 2}), 3, bal(3, 1), 1, len(want), nil, want)
		for _, two := range [][]int{{0, 1}, {1, 2}, {0, 2}} {
			v := w.copy()
			tells(t, v.ask(t, 3, bal(4, 2), two, two), 3, bal(4, 2), 1, len(want), nil, want)
			tells(t, v.ask(t, 4, bal(5, 2), two, two), 3, bal(5, 2), 1, len(want)+1, nil, behind(want, put(3)))
			holds(t, agrees(v.agreed()), "the rounds don't agree")
		}
	}
}

// P13.3: a round that is shut out by a newer ballot begins anew, and finds its own command where another round carried it on.
func TestCarriedOn(t *testing.T) {
	w := newWorld(t, 5)
	first, second := w.join(t, put(1), false), w.join(t, put(2), false)
	w.ask(t, 0, bal(1, 0), []int{0, 1, 2}, []int{0})
	w.ask(t, 1, bal(1, 1), []int{0, 3, 4}, []int{0, 3, 4})
	both := []api.Command{put(1), put(2)}
	tells(t, second, 3, bal(1, 1), 1, 2, nil, both)
	tells(t, first, 2, bal(1, 0), 1, 1, upTo(1, 5), []api.Command{put(1)})
	tells(t, w.ask(t, 0, bal(2, 0), []int{2, 3, 1}, []int{1, 2, 3}), 3, bal(2, 0), 2, 1, nil, both)
	holds(t, agrees(w.agreed()), "the rounds don't agree")
}

// P13.3: at the ledger's end: the last command that has room, one that has none, and a round that reads; all that are done agree.
func TestAgreeFull(t *testing.T) {
	w := newWorld(t, 3)
	for _, a := range w.acceptors[:2] {
		holds(t, a.Accept(bal(1, 1), floors(maxLedger-1)) == nil, "Accept")
	}
	for i, c := range []api.Command{put(1), put(2), {}, put(1)} {
		w.join(t, c, i == 2)
	}
	full := behind(floors(maxLedger-1), put(1))
	tells(t, w.ask(t, 0, bal(2, 0), []int{1, 2}, []int{0, 2}), 3, bal(2, 0), 1, maxLedger, nil, full)
	tells(t, w.ask(t, 1, bal(3, 1), []int{0, 1}, []int{0, 1}), 4, bal(3, 1), 1, 0, nil, nil)
	tells(t, w.ask(t, 2, bal(4, 2), []int{1, 2}, []int{1, 2}), 3, bal(4, 2), 1, maxLedger, nil, full)
	tells(t, w.ask(t, 3, bal(5, 2), []int{0, 1}, []int{1, 0}), 3, bal(5, 2), 1, maxLedger, nil, full)
	holds(t, agrees(w.agreed()) && len(w.agreed()) == 3, "the rounds don't agree")
}
