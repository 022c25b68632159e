package ballot

import (
	"bollard/api"
	"math/bits"
	"slices"
	"testing"
)

// proposer asks acceptors under one ballot, by the rule of P9.4, unless it is a careless one, which goes on with no ledger whatever it is told.
type proposer struct {
	ballot    api.Ballot
	own       []api.Command
	acceptors int
	careless  bool
	answered  uint16 // a bit an acceptor
	newest    api.Ballot
	ledger    []api.Command
	proposes  bool   // the ledger is the one that it lets be accepted
	accepted  uint16 // a bit an acceptor
}

// hear takes what an acceptor answered to this ballot's Prepare.
func (p *proposer) hear(from int, accepted api.Ballot, ledger []api.Command) {
	if p.proposes || p.answered>>from&1 == 1 {
		return
	}
	p.answered |= 1 << from
	if Above(accepted, p.newest) && !p.careless {
		p.newest, p.ledger = accepted, ledger
	}
	if bits.OnesCount16(p.answered) == Half(p.acceptors) {
		p.ledger, p.proposes = slices.Concat(p.ledger, p.own), true
	}
}

// voting is a number of acceptors, and the proposers that ask them.
type voting struct {
	acceptors []*Acceptor
	proposers []*proposer
}

func newVoting(t *testing.T, acceptors int) *voting {
	t.Helper()
	v := &voting{}
	for i := range acceptors {
		v.acceptors = append(v.acceptors, newAcceptor(t, i))
	}
	return v
}

// propose puts a proposer of that ballot there, whose own commands differ in their Kind from all others.
func (v *voting) propose(b api.Ballot, careless bool, own ...int) *proposer {
	p := &proposer{ballot: b, acceptors: len(v.acceptors), careless: careless}
	for _, kind := range own {
		p.own = append(p.own, api.Command{Kind: kind})
	}
	v.proposers = append(v.proposers, p)
	return p
}

// accept lets an acceptor accept what the proposer proposes, if it proposes anything.
func (v *voting) accept(p *proposer, at int) {
	if p.proposes && v.acceptors[at].Accept(p.ballot, p.ledger) == nil {
		p.accepted |= 1 << at
	}
}

// agreed are the ledgers that more than half of the acceptors have accepted, each under its ballot.
func (v *voting) agreed() [][]api.Command {
	var out [][]api.Command
	for _, p := range v.proposers {
		if bits.OnesCount16(p.accepted) >= Half(len(v.acceptors)) {
			out = append(out, p.ledger)
		}
	}
	return out
}

// goesOn tells whether of two ledgers one goes on with the other.
func goesOn(a, b []api.Command) bool {
	for i := range min(len(a), len(b)) {
		if a[i].Kind != b[i].Kind {
			return false
		}
	}
	return true
}

// agrees tells whether of any two of the ledgers one goes on with the other.
func agrees(ledgers [][]api.Command) bool {
	for i, a := range ledgers {
		for _, b := range ledgers[:i] {
			if !goesOn(a, b) {
				return false
			}
		}
	}
	return true
}

// move is what comes between a proposer and an acceptor: a Prepare, its answer being heard or lost, or an Accept.
type move struct {
	proposer, acceptor int
	call               string
}

// after is the voting behind that move; the one ahead stays. (An acceptor's copy may share its ledger: none is ever written into.)
func (v *voting) after(m move) *voting {
	a, p := *v.acceptors[m.acceptor], *v.proposers[m.proposer]
	out := &voting{slices.Clone(v.acceptors), slices.Clone(v.proposers)}
	out.acceptors[m.acceptor], out.proposers[m.proposer] = &a, &p
	if m.call == "Accept" {
		out.accept(&p, m.acceptor)
		return out
	}
	accepted, ledger, err := a.Prepare(p.ballot)
	if err == nil && m.call == "Prepare" {
		p.hear(m.acceptor, accepted, ledger)
	}
	return out
}

// state tells all of a voting on which its going on hangs; each number of it is small.
func (v *voting) state() string {
	var out []byte
	put := func(b api.Ballot, ledger []api.Command) {
		out = append(out, byte(b.Round), byte(b.Node), byte(len(ledger)))
		for _, c := range ledger {
			out = append(out, byte(c.Kind))
		}
	}
	for _, a := range v.acceptors {
		put(a.Promised(), nil)
		put(a.Accepted())
	}
	for _, p := range v.proposers {
		put(p.newest, p.ledger)
		out = append(out, byte(p.answered), byte(p.accepted))
	}
	return string(out)
}

// search is a search through every voting that some acceptors and proposers can come to.
type search struct {
	seen    map[string]int
	agreed  int // votings in which the ledgers of two ballots or more are agreed on
	against int // those of them in which one doesn't go on with the other
}

// from goes on from a voting by each move, unless it was seen already.
func (s *search) from(v *voting) {
	state := v.state()
	if s.seen[state]++; s.seen[state] > 1 {
		return
	}
	if agreed := v.agreed(); len(agreed) > 1 {
		s.agreed++
		if !agrees(agreed) {
			s.against++
		}
	}
	for p := range v.proposers {
		for a := range v.acceptors {
			for _, call := range []string{"Prepare", "Prepare, lost", "Accept"} {
				s.from(v.after(move{p, a, call}))
			}
		}
	}
}

// everyVoting searches through what that many acceptors can come to by a proposer a ballot.
func everyVoting(t *testing.T, acceptors int, careless bool, ballots ...api.Ballot) *search {
	t.Helper()
	v := newVoting(t, acceptors)
	for i, b := range ballots {
		v.propose(b, careless, i+1)
	}
	s := &search{seen: map[string]int{}}
	s.from(v)
	return s
}

// P9.4: every voting that few acceptors can come to by proposers of few ballots, whatever is lost, doubled or late. Careless proposers come to others, which shows that it is the rule that counts.
func TestEveryVoting(t *testing.T) {
	for _, c := range []struct {
		acceptors int
		ballots   []api.Ballot
	}{
		{1, []api.Ballot{bal(1, 0), bal(1, 1), bal(2, 0)}},
		{2, []api.Ballot{bal(1, 1), bal(2, 0), bal(2, 1)}},
		{3, []api.Ballot{bal(1, 2), bal(2, 0), bal(2, 1)}},
		{4, []api.Ballot{bal(1, 0), bal(1, 1)}},
	} {
		s := everyVoting(t, c.acceptors, false, c.ballots...)
		if s.agreed == 0 || s.against != 0 {
			t.Error(c.acceptors, "acceptors:", s.against, "of", s.agreed, "votings don't agree")
		}
		if s := everyVoting(t, c.acceptors, true, c.ballots[:2]...); s.against == 0 {
			t.Error(c.acceptors, "acceptors agree whatever is proposed")
		}
	}
}

// answer is what an acceptor answered to a proposer's Prepare, on its way.
type answer struct {
	to       *proposer
	from     int
	accepted api.Ballot
	ledger   []api.Command
}

// crowd is a voting with as many proposers as it takes, and answers that are on their way for long.
type crowd struct {
	*voting
	careless bool
	used     map[api.Ballot]int
	answers  []answer
	kinds    int
	n        func(int) int
}

// begin lets a proposer begin with a ballot that no other one has: mostly one that an acceptor claims, sometimes any.
func (c *crowd) begin(t *testing.T) {
	t.Helper()
	at := c.n(len(c.acceptors))
	above := none()
	if len(c.proposers) > 0 && c.n(2) == 0 {
		above = c.proposers[c.n(len(c.proposers))].ballot
	}
	b, err := c.acceptors[at].Claim(above)
	good(t, err)
	if c.used[b] != 0 {
		t.Fatal("claimed twice:", b)
	}
	if c.n(4) == 0 {
		// Another claim of this ballot would be no other proposer's: its Node is that of no acceptor.
		b = bal(max(b.Round-c.n(4), 1), len(c.acceptors)+c.n(16-len(c.acceptors)))
	}
	if c.used[b]++; c.used[b] > 1 {
		return
	}
	var own []int
	for range c.n(3) {
		c.kinds++
		own = append(own, c.kinds)
	}
	c.propose(b, c.careless, own...)
}

// step does one thing of those that may come next.
func (c *crowd) step(t *testing.T) {
	t.Helper()
	// The more acceptors there are, the longer a proposer needs, which is asked mostly while it is among the newest.
	if len(c.proposers) == 0 || c.n(6*len(c.acceptors)) == 0 {
		c.begin(t)
		return
	}
	p := c.proposers[max(len(c.proposers)-1-c.n(3)*c.n(2), 0)]
	if c.n(10) == 0 {
		p = c.proposers[c.n(len(c.proposers))]
	}
	at := c.n(len(c.acceptors))
	switch c.n(5) {
	case 0:
		if accepted, ledger, err := c.acceptors[at].Prepare(p.ballot); err == nil {
			c.answers = append(c.answers, answer{p, at, accepted, ledger})
		}
	case 1, 2:
		c.deliver()
	default:
		c.accept(p, at)
	}
}

// deliver brings one of the answers that are on their way, or loses it, or brings it and leaves another one like it on its way.
func (c *crowd) deliver() {
	if len(c.answers) == 0 {
		return
	}
	i := c.n(len(c.answers))
	one := c.answers[i]
	if c.n(8) > 0 {
		one.to.hear(one.from, one.accepted, one.ledger)
	}
	if c.n(4) > 0 {
		c.answers = slices.Delete(c.answers, i, i+1)
	}
}

// run lets a crowd of that many acceptors go on for long, and gives the ledgers that were agreed on.
func run(t *testing.T, acceptors int, careless bool, n func(int) int) [][]api.Command {
	t.Helper()
	c := &crowd{voting: newVoting(t, acceptors), careless: careless, used: map[api.Ballot]int{}, n: n}
	for range 3000 {
		c.step(t)
	}
	return c.agreed()
}

// P9.4: long rows of Prepare and Accept on one to nine acceptors, by many proposers at once, with answers that are lost, doubled and late.
func TestManyVotings(t *testing.T) {
	r := source()
	for acceptors := 1; acceptors <= 9; acceptors++ {
		several, against := 0, 0
		for i := range 60 {
			agreed := run(t, acceptors, false, r.IntN)
			if !agrees(agreed) {
				t.Fatal(acceptors, "acceptors, row", i, "don't agree")
			}
			if len(agreed) > 1 {
				several++
			}
			if !agrees(run(t, acceptors, true, r.IntN)) {
				against++
			}
		}
		if several < 50 || against < 50 {
			t.Error(acceptors, "acceptors: too few rows say anything:", several, against)
		}
	}
}
