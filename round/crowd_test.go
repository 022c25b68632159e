package round

import (
	"bollard/api"
	"bollard/ledger"
	"math/rand/v2"
	"slices"
	"testing"
)

// member is a round of a crowd: whose node it is, what it was to put, and what had been agreed on when it began with its ballot.
type member struct {
	node    int
	command api.Command
	reads   bool
	ahead   []api.Command
	done    bool
}

// crowd is a world with as many rounds as it takes, and letters that are on their way for long.
type crowd struct {
	*world
	r       *rand.Rand
	members []*member
	letters []letter
	used    map[api.Ballot]int
	longest []api.Command // of the ledgers that were agreed on
	counts  struct{ done, anew, late int }
}

// enter lets a round come to a node; mostly with a command of its own, sometimes with that of an older round, sometimes reading.
func (c *crowd) enter(t *testing.T) {
	t.Helper()
	m := &member{node: c.r.IntN(len(c.acceptors)), command: put(len(c.members) + 1), reads: c.r.IntN(4) == 0}
	if len(c.members) > 0 && c.r.IntN(12) == 0 {
		m.command = c.members[c.r.IntN(len(c.members))].command
	}
	c.members = append(c.members, m)
	c.join(t, m.command, m.reads)
	c.begin(t, len(c.members)-1, none())
}

// begin lets a round begin with the ballot that its node's acceptor claims.
func (c *crowd) begin(t *testing.T, i int, above api.Ballot) {
	t.Helper()
	r, m := c.rounds[i], c.members[i]
	b, err := c.acceptors[m.node].Claim(above)
	holds(t, err == nil && c.used[b] == 0, "Claim:", b, err)
	c.used[b]++
	begin(t, r, b)
	m.ahead = c.longest
	c.letters = append(c.letters, c.toMissing(i)...)
}

// again lets a round that isn't done send again, or begin anew above some ballot, its own or another round's.
func (c *crowd) again(t *testing.T) {
	t.Helper()
	i := c.some()
	r := c.rounds[i]
	switch {
	case r.Stage() > StageTell:
		return
	case c.r.IntN(3) > 0:
		c.letters = append(c.letters, c.toMissing(i)...)
	default:
		c.counts.anew++
		c.begin(t, i, []api.Ballot{r.Ballot(), c.rounds[c.some()].Ballot()}[c.r.IntN(2)])
	}
}

// some is mostly one of the newest rounds: the older ones have been given up.
func (c *crowd) some() int {
	if c.r.IntN(20) == 0 {
		return c.r.IntN(len(c.rounds))
	}
	return max(0, len(c.rounds)-1-c.r.IntN(3))
}

// carry brings one of the letters that are on their way, or loses it, or brings it and leaves another one like it on its way.
func (c *crowd) carry(t *testing.T) {
	t.Helper()
	if len(c.letters) == 0 {
		return
	}
	i := len(c.letters) - 1 - c.r.IntN(min(len(c.letters), 4*len(c.acceptors)))
	if c.r.IntN(10) == 0 {
		i = c.r.IntN(len(c.letters))
	}
	x := c.letters[i]
	if c.r.IntN(6) > 0 {
		c.letters = slices.Delete(c.letters, i, i+1)
	}
	if c.r.IntN(10) > 0 {
		if c.rounds[x.round].Ballot() != x.b {
			c.counts.late++
		}
		c.letters = append(c.letters, c.deliver(x)...)
		c.look(t, x.round)
	}
}

// look asks a round that has just been done. In a careless crowd nothing holds.
func (c *crowd) look(t *testing.T, i int) {
	t.Helper()
	r, m := c.rounds[i], c.members[i]
	if m.done || r.Stage() != StageDone {
		return
	}
	m.done = true
	c.counts.done++
	l, id := r.Ledger(), m.command.Id
	if !c.careless {
		holds(t, ledger.Begins(m.ahead, l), "the ledger doesn't go on with what had been agreed on when the round began")
		holds(t, m.reads && r.Place() == len(l) || !m.reads && times(l, id) == 1 && text(l[r.Place()-1]) == text(m.command), "the command is there", times(l, id), "times")
	}
	if len(l) > len(c.longest) {
		c.longest = l
	}
}

// run lets a crowd of that many nodes go on for long.
func run(t *testing.T, nodes, steps int, careless bool, r *rand.Rand) *crowd {
	t.Helper()
	c := &crowd{world: newWorld(t, nodes), r: r, used: map[api.Ballot]int{}}
	c.careless = careless
	c.enter(t)
	for range steps {
		switch {
		case r.IntN(8*nodes) == 0:
			c.enter(t)
		case r.IntN(4*nodes) == 0:
			c.again(t)
		default:
			c.carry(t)
		}
	}
	return c
}

// P13.2, P13.3: many drawn orders of rounds and acceptors of each number of nodes together, with letters that are lost, doubled and late, and rounds that begin anew or are given up: those that are done agree. Careless ones don't.
func TestCrowds(t *testing.T) {
	t.Parallel()
	r := source()
	for nodes := 1; nodes <= maxWidth; nodes++ {
		several, against := 0, 0
		for i := range 40 {
			c := run(t, nodes, 800+250*nodes, false, r)
			holds(t, agrees(c.agreed()) && len(c.agreed()) == c.counts.done, nodes, "nodes, order", i, ": the rounds don't agree")
			if c.counts.done > 2 && c.counts.anew > 2 && c.counts.late > 2 {
				several++
			}
			if !agrees(run(t, nodes, 800+250*nodes, true, r).agreed()) {
				against++
			}
		}
		holds(t, several > 30 && against > 30, nodes, "nodes: too few orders say anything:", several, against)
	}
}
