package round

import (
	"bollard/api"
	"encoding/binary"
	"slices"
	"testing"
)

// plan is what the rounds of a world are going to do: which ballots each begins with, one after the other, and which of them read. At once: an acceptor's answer comes at once or never.
type plan struct {
	nodes   int
	ballots [][]api.Ballot
	reads   []bool
	atOnce  bool
}

// place is where a world can come to: the world, and which letters were ever sent in it. None of them is ever gone: each may be delivered at any time, often or never.
type place struct {
	*world
	sent [2]uint64 // a bit a letter
}

func (p *place) has(i int) bool { return p.sent[i/64]>>(i%64)&1 == 1 }

// search goes through every place to which a plan can lead, and counts them: all, those in which two rounds or more are done, and those of them in which these don't agree.
type search struct {
	plan
	letters               []letter
	numbers               map[string]int // of the letters, by their keys
	seen                  map[string]int
	work                  []*place
	places, done, against int
}

// keyOf is what something holds, each number of which is small here.
func keyOf(out []byte, b, accepted api.Ballot, l []api.Command) []byte {
	out = append(out, byte(b.Round), byte(b.Node), byte(accepted.Round), byte(accepted.Node), byte(len(l)))
	for _, c := range l {
		out = append(out, byte(c.Id.Seq))
	}
	return out
}

// number is a letter's number, the same for all letters that are alike.
func (s *search) number(x letter) int {
	key := x.call + string(keyOf([]byte{byte(x.round), byte(x.node)}, x.b, x.accepted, x.l))
	n, there := s.numbers[key]
	if !there {
		n = len(s.letters)
		s.numbers[key], s.letters = n, append(s.letters, x)
	}
	return n
}

// key is all on which hangs how a world goes on from there.
func (p *place) key() string {
	out := make([]byte, 0, 128)
	for _, a := range p.acceptors {
		accepted, l := a.Accepted()
		out = keyOf(out, a.Promised(), accepted, l)
	}
	for _, r := range p.rounds {
		out = keyOf(append(out, byte(r.stage), byte(r.begun)), r.ballot, r.newest, r.ledger)
		left := missing(r)
		out = append(out, byte(len(left)))
		for _, from := range left {
			out = append(out, byte(from))
		}
	}
	for _, word := range p.sent {
		out = binary.LittleEndian.AppendUint64(out, word)
	}
	return string(out)
}

// visit puts a place among those to be gone on from, unless it was seen already.
func (s *search) visit(t *testing.T, p *place, sent []letter) {
	for _, x := range sent {
		i := s.number(x)
		holds(t, i < 128, "too many letters")
		p.sent[i/64] |= 1 << (i % 64)
	}
	key := p.key()
	if s.seen[key]++; s.seen[key] == 1 {
		s.work = append(s.work, p)
	}
}

// after goes on to the place behind the delivery of a letter; the one ahead stays as it is.
func (s *search) after(t *testing.T, p *place, x letter) {
	w := &world{slices.Clone(p.acceptors), slices.Clone(p.rounds), p.careless}
	a := *w.acceptors[x.node]
	w.acceptors[x.node], w.rounds[x.round] = &a, as(w.rounds[x.round])
	answers := w.deliver(x)
	if !s.atOnce {
		s.visit(t, &place{w, p.sent}, answers)
		return
	}
	s.visit(t, &place{w, p.sent}, nil)
	for _, answer := range answers {
		heard := &world{w.acceptors, slices.Clone(w.rounds), w.careless}
		heard.rounds[x.round] = as(w.rounds[x.round])
		s.visit(t, &place{heard, p.sent}, heard.deliver(answer))
	}
}

// begin goes on to the place behind a round's next beginning, if there is one.
func (s *search) begin(t *testing.T, p *place, i int) {
	r := as(p.rounds[i])
	if r.Begun() == len(s.ballots[i]) || r.Begin(s.ballots[i][r.Begun()]) != nil {
		return
	}
	w := &world{p.acceptors, slices.Clone(p.rounds), p.careless}
	w.rounds[i] = r
	s.visit(t, &place{w, p.sent}, w.toMissing(i))
}

// look counts a place, and asks of each round that is done in it what it is done by.
func (s *search) look(t *testing.T, p *place) {
	s.places++
	all := p.agreed()
	if len(all) > 1 {
		s.done++
	}
	if !agrees(all) {
		s.against++
	}
	for i, r := range p.rounds {
		if r.Stage() == StageDone && !s.atOnce {
			s.doneBehind(t, p, i)
		}
	}
}

// doneBehind asks of a round that is done that more than half have promised its ballot and accepted it, and that its command is there once.
func (s *search) doneBehind(t *testing.T, p *place, i int) {
	t.Helper()
	r, nodes := p.rounds[i], map[string]map[int]int{"Promise": {}, "Accepted": {}}
	for k, x := range s.letters {
		if from := nodes[x.call]; from != nil && x.round == i && x.b == r.Ballot() && p.has(k) {
			from[x.node]++
		}
	}
	for call, from := range nodes {
		holds(t, 2*len(from) > s.nodes, call, "came from", len(from), "of", s.nodes)
	}
	if id := put(i + 1).Id; !s.reads[i] {
		holds(t, times(r.Ledger(), id) == 1 && r.Ledger()[r.Place()-1].Id == id, "the command is there", times(r.Ledger(), id), "times")
	}
}

// through goes through all places, or until rounds don't agree.
func (p plan) through(t *testing.T, careless bool) *search {
	t.Helper()
	s := &search{plan: p, numbers: map[string]int{}, seen: map[string]int{}}
	w := newWorld(t, p.nodes)
	w.careless = careless
	for i := range p.ballots {
		w.join(t, put(i+1), p.reads[i])
	}
	s.visit(t, &place{world: w}, nil)
	for len(s.work) > 0 && s.against == 0 {
		at := s.work[len(s.work)-1]
		s.work = s.work[:len(s.work)-1]
		s.look(t, at)
		for i := range p.ballots {
			s.begin(t, at, i)
		}
		for i := range s.letters {
			if at.has(i) {
				s.after(t, at, s.letters[i])
			}
		}
	}
	return s
}

// agree goes through all places of a plan: rounds that are done agree. In careless worlds they don't, which shows that it is what they are told that counts.
func (p plan) agree(t *testing.T) {
	t.Helper()
	s := p.through(t, false)
	holds(t, s.done > 0 && s.against == 0, p, ":", s.against, "of", s.done, "don't agree")
	holds(t, p.through(t, true).against > 0, p, ": careless, and they agree")
}

// P13.2, P13.3: every world that few acceptors and rounds can come to, whatever is lost, doubled or late.
func TestEveryWorld(t *testing.T) {
	t.Parallel()
	for _, p := range []plan{
		{nodes: 1, ballots: [][]api.Ballot{{bal(1, 0)}, {bal(1, 1)}}, reads: []bool{false, false}},
		{nodes: 1, ballots: [][]api.Ballot{{bal(1, 0), bal(2, 0)}, {bal(1, 1)}, {bal(2, 1)}}, reads: []bool{false, true, false}},
		{nodes: 2, ballots: [][]api.Ballot{{bal(1, 0)}, {bal(1, 1)}}, reads: []bool{false, false}},
		{nodes: 2, ballots: [][]api.Ballot{{bal(1, 0), bal(2, 0)}, {bal(1, 1)}}, reads: []bool{false, false}},
		{nodes: 3, ballots: [][]api.Ballot{{bal(1, 0)}, {bal(1, 1)}}, reads: []bool{false, false}},
	} {
		p.agree(t)
	}
}

// P13.3: the same with more ballots, answers coming at once or never.
func TestEveryWorldAtOnce(t *testing.T) {
	t.Parallel()
	for _, p := range []plan{
		{nodes: 2, ballots: [][]api.Ballot{{bal(1, 0), bal(2, 0)}, {bal(1, 1), bal(2, 1)}}, reads: []bool{false, false}},
		{nodes: 3, ballots: [][]api.Ballot{{bal(1, 0)}, {bal(1, 1)}, {bal(1, 2)}}, reads: []bool{false, false, false}},
		{nodes: 3, ballots: [][]api.Ballot{{bal(1, 0)}, {bal(1, 1)}, {bal(1, 2)}}, reads: []bool{false, true, false}},
		{nodes: 3, ballots: [][]api.Ballot{{bal(1, 0), bal(2, 0)}, {bal(1, 1)}}, reads: []bool{false, false}},
		{nodes: 4, ballots: [][]api.Ballot{{bal(1, 0)}, {bal(1, 1)}}, reads: []bool{false, false}},
	} {
		p.atOnce = true
		p.agree(t)
	}
}
