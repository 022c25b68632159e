package round

import (
	"bollard/api"
	"cmp"
	"fmt"
	"slices"
	"testing"
)

func plainCompare(a, b api.Ballot) int {
	return cmp.Or(cmp.Compare(a.Round, b.Round), cmp.Compare(a.Node, b.Node))
}

// plainLegal asks the bits: a legal Round less one has 40 of them, a legal Node 4.
func plainLegal(b api.Ballot) bool {
	return uint(b.Round-1)>>40 == 0 && uint(b.Node)>>4 == 0
}

// plainPromise is a promise that was taken.
type plainPromise struct {
	from     int
	accepted api.Ballot
	ledger   []api.Command
}

// plainRound is the other implementation: it keeps the ballots that it began with and, since the newest one, all answers that were taken, and finds everything else anew whenever it is asked.
type plainRound struct {
	nodes    int
	own      []api.Command // none, if it reads
	begun    []api.Ballot
	promises []plainPromise
	accepts  []int
}

func newPlain(nodes int, c api.Command, reads bool) *plainRound {
	p := &plainRound{nodes: nodes}
	if !reads {
		p.own = []api.Command{c}
	}
	return p
}

func (p *plainRound) ballot() api.Ballot { return append([]api.Ballot{{}}, p.begun...)[len(p.begun)] }

// newest is the greatest ballot that was told, and the ledger of the first promise that had it.
func (p *plainRound) newest() (api.Ballot, []api.Command) {
	all := slices.Clone(p.promises)
	slices.SortStableFunc(all, func(a, b plainPromise) int { return plainCompare(b.accepted, a.accepted) })
	for _, one := range all {
		if plainCompare(one.accepted, none()) > 0 {
			return one.accepted, one.ledger
		}
	}
	return none(), nil
}

// accepting is the ledger that is to be accepted and the place, once there are promises enough; false, if there is no room.
func (p *plainRound) accepting() ([]api.Command, int, bool) {
	_, l := p.newest()
	if len(p.own) == 0 {
		return l, len(l), true
	}
	for i, c := range l {
		if c.Id == p.own[0].Id {
			return l, i + 1, true
		}
	}
	return slices.Concat(l, p.own), len(l) + 1, len(l) < 4096
}

func (p *plainRound) stage() int {
	if len(p.begun) == 0 {
		return 0
	}
	if 2*len(p.promises) <= p.nodes {
		return 1
	}
	if _, _, ok := p.accepting(); !ok {
		return 4
	}
	if 2*len(p.accepts) <= p.nodes {
		return 2
	}
	return 3
}

func (p *plainRound) begin(b api.Ballot) error {
	if p.stage() > 2 {
		return api.ErrState
	}
	if !plainLegal(b) || plainCompare(b, p.ballot()) < 1 {
		return api.ErrBallot
	}
	p.begun, p.promises, p.accepts = append(slices.Clone(p.begun), b), nil, nil
	return nil
}

func (p *plainRound) promise(from int, b, accepted api.Ballot, l []api.Command) bool {
	ok := p.stage() == 1 && b == p.ballot() && slices.Contains(p.missing(), from)
	if ok {
		p.promises = append(slices.Clone(p.promises), plainPromise{from, accepted, l})
	}
	return ok
}

func (p *plainRound) accepted(from int, b api.Ballot) bool {
	ok := p.stage() == 2 && b == p.ballot() && slices.Contains(p.missing(), from)
	if ok {
		p.accepts = append(slices.Clone(p.accepts), from)
	}
	return ok
}

func (p *plainRound) missing() []int {
	there := map[int]int{}
	switch p.stage() {
	case 0, 3, 4:
		return nil
	case 1:
		for _, one := range p.promises {
			there[one.from]++
		}
	case 2:
		for _, from := range p.accepts {
			there[from]++
		}
	}
	return slices.DeleteFunc(upTo(0, p.nodes), func(node int) bool { return there[node] > 0 })
}

func (p *plainRound) told() string {
	var l []api.Command
	place := 0
	if p.stage() == 2 || p.stage() == 3 {
		l, place, _ = p.accepting()
	}
	return fmt.Sprint("stage ", p.stage(), " ballot ", p.ballot(), " begun ", len(p.begun), " place ", place, " missing ", p.missing(), " ledger ", inShort(l))
}

// pair is a round and one of the other implementation, to which the same is done.
type pair struct {
	round *Round
	plain *plainRound
}

func newPair(t *testing.T, nodes int, c api.Command, reads bool) pair {
	t.Helper()
	return pair{newRound(t, nodes, c, reads), newPlain(nodes, c, reads)}
}

// copy is another pair that is as far; the one ahead stays as it is.
func (p pair) copy() pair {
	other := *p.plain
	return pair{as(p.round), &other}
}

// state is all on which hangs how both go on. (Of the promises that the other implementation keeps, only who gave them and the newest one.)
func (p pair) state() string {
	r, froms := as(p.round), []int{}
	r.ledger = nil
	for _, one := range p.plain.promises {
		froms = append(froms, one.from)
	}
	slices.Sort(froms)
	accepted, l := p.plain.newest()
	return text(*r) + inShort(p.round.ledger) + p.plain.told() + fmt.Sprint(froms, accepted) + inShort(l)
}

// same asks that both of the pair tell the same.
func (p pair) same(t *testing.T, what any) {
	t.Helper()
	got, want := told(p.round), p.plain.told()
	holds(t, got == want, "behind", what, ":\n"+got, "\nin the place of\n"+want)
}

// step is one call on a round.
type step struct {
	call      string
	from      int
	b, accept api.Ballot
	l         []api.Command
}

// String tells a step, in a fault that is found.
func (s step) String() string {
	return fmt.Sprintf("%s(%d, %v, %v, %d commands)", s.call, s.from, s.b, s.accept, len(s.l))
}

// do does the step to both, and asks that both answer the same.
func (p pair) do(t *testing.T, s step) string {
	t.Helper()
	var got, want string
	switch s.call {
	case "Begin":
		got, want = fmt.Sprint(p.round.Begin(s.b)), fmt.Sprint(p.plain.begin(s.b))
	case "Promise":
		got, want = fmt.Sprint(p.round.Promise(s.from, s.b, s.accept, s.l)), fmt.Sprint(p.plain.promise(s.from, s.b, s.accept, s.l))
	case "Accepted":
		got, want = fmt.Sprint(p.round.Accepted(s.from, s.b)), fmt.Sprint(p.plain.accepted(s.from, s.b))
	default:
		t.Fatal("no such call:", s.call)
	}
	holds(t, got == want, s, ":", got, "in the place of", want, "behind", p.plain.told())
	return got
}
