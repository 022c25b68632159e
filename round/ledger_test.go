package round

import (
	"bollard/api"
	"math"
	"slices"
	"testing"
)

// heard is what a node promises: the ballot that it accepted, and the ledger.
type heard struct {
	accepted api.Ballot
	l        []api.Command
}

// asks is a round of five nodes, three of whom promise so.
func asks(t *testing.T, reads bool, all ...heard) *Round {
	t.Helper()
	r, b := begun(t, 5, reads, bal(9, 4)), bal(9, 4)
	for i, one := range all {
		holds(t, r.Stage() == StageAsk && r.Promise([]int{4, 0, 2}[i], b, one.accepted, one.l), "promise", i)
	}
	return r
}

// goesOn asks of a round that reads and of one that doesn't which of the ledgers they go on with, when they hear three promises.
func goesOn(t *testing.T, want []api.Command, all ...heard) {
	t.Helper()
	tells(t, asks(t, true, all...), 2, bal(9, 4), 1, len(want), upTo(0, 5), want)
	tells(t, asks(t, false, all...), 2, bal(9, 4), 1, len(want)+1, upTo(0, 5), behind(want, own()))
}

// P13.1, P13.2: the newest ledger is that of the greatest ballot, in whichever order the promises come, whichever ledger is the longest.
func TestNewest(t *testing.T) {
	all := []heard{{bal(3, 1), row(1)}, {bal(3, 2), row(2, 3)}, {bal(4, 0), nil}, {none(), nil}, {bal(2, 15), row(4, 5, 6)}, {bal(1, 0), row(7, 8, 9, 10)}}
	for i, a := range all {
		for k, b := range all {
			for n, c := range all {
				if i == k || i == n || k == n {
					continue
				}
				greatest := slices.MaxFunc([]heard{a, b, c}, func(x, y heard) int { return plainCompare(x.accepted, y.accepted) })
				goesOn(t, greatest.l, a, b, c)
			}
		}
	}
}

// P13.1: of the same ballot the first ledger stays; a ballot that is above by its Node alone, or by its Round with a lesser Node, is newer.
func TestNewestEqual(t *testing.T) {
	goesOn(t, row(1), heard{bal(3, 1), row(1)}, heard{bal(3, 1), row(2, 3)}, heard{bal(3, 1), nil})
	goesOn(t, nil, heard{bal(3, 1), nil}, heard{bal(3, 1), row(2, 3)}, heard{bal(3, 1), row(1)})
	goesOn(t, row(2, 3), heard{bal(3, 1), row(1)}, heard{bal(3, 2), row(2, 3)}, heard{bal(3, 1), row(4)})
	goesOn(t, row(2, 3), heard{bal(3, 15), row(1)}, heard{bal(4, 0), row(2, 3)}, heard{bal(3, 15), row(4)})
	goesOn(t, row(4), heard{bal(3, 1), row(1)}, heard{bal(3, 0), row(2, 3)}, heard{bal(3, 2), row(4)})
}

// P13.1: a ledger that comes with no ballot counts for nothing, whatever it holds; nor does one with a ballot below none.
func TestNewestNone(t *testing.T) {
	for _, low := range []api.Ballot{none(), bal(0, -1), bal(-1, 0), bal(-1, 15), bal(math.MinInt, math.MaxInt), bal(0, math.MinInt)} {
		goesOn(t, nil, heard{low, row(1, 2)}, heard{low, row(3)}, heard{low, nil})
		goesOn(t, row(4), heard{low, row(1, 2)}, heard{bal(1, 0), row(4)}, heard{low, row(5, 6, 7)})
	}
}

// P13.1: it is the order of the ballots alone that is asked: one that isn't legal, or is above the round's own, counts by the same words.
func TestNewestAny(t *testing.T) {
	for _, high := range []api.Ballot{bal(0, 1), bal(0, math.MaxInt), bal(1, -5), bal(9, 4), bal(9, 5), bal(10, 0), bal(maxTime+1, 16), bal(math.MaxInt, math.MinInt), bal(math.MaxInt, math.MaxInt)} {
		goesOn(t, row(1, 2), heard{none(), row(3)}, heard{high, row(1, 2)}, heard{none(), row(4)})
		goesOn(t, row(1, 2), heard{high, row(1, 2)}, heard{high, row(3)}, heard{bal(0, 0), nil})
	}
	goesOn(t, row(1), heard{bal(1, 0), row(2)}, heard{bal(math.MaxInt, 0), row(1)}, heard{bal(math.MinInt, 0), row(3)})
}

// P13.1, P13.2: a ledger that has the round's Id, wherever it stands and whatever else that command holds, is let be accepted as it is; one that hasn't gets the command behind it.
func TestHas(t *testing.T) {
	alike, other := own(), odd(77)
	alike.Time, other.Id = 10, own().Id
	for _, n := range []int{1, 2, 3, 8, 100} {
		l := row(upTo(100, 100+n)...)
		goesOn(t, l, heard{bal(1, 1), l}, heard{}, heard{})
		for i := range l {
			for _, c := range []api.Command{own(), alike, other, {Id: own().Id}} {
				has := with(l, i, c)
				tells(t, asks(t, false, heard{bal(1, 1), has}, heard{}, heard{}), 2, bal(9, 4), 1, i+1, upTo(0, 5), has)
				tells(t, asks(t, true, heard{bal(1, 1), has}, heard{}, heard{}), 2, bal(9, 4), 1, n, upTo(0, 5), has)
			}
		}
	}
}

// P13.1: Ids that differ in one number alone are told apart, and an Id is told by the Id alone.
func TestHasAlike(t *testing.T) {
	id := own().Id
	for _, other := range []api.Id{idOf(0, 2, 3), idOf(2, 2, 3), idOf(1, 1, 3), idOf(1, 3, 3), idOf(1, 2, 2), idOf(1, 2, 4), idOf(2, 1, 3), idOf(-1, 2, 3)} {
		c := own()
		c.Id = other
		goesOn(t, []api.Command{c}, heard{bal(1, 1), []api.Command{c}}, heard{}, heard{})
	}
	c := odd(1)
	c.Upload, c.Piece.Blob = id, id
	goesOn(t, []api.Command{c}, heard{bal(1, 1), []api.Command{c}}, heard{}, heard{})
}

// P13.1: a ledger that has the round's Id more than once stays as it is, and the place is the first one's.
func TestHasTwice(t *testing.T) {
	l := with(with(row(1, 2, 3, 4, 5), 1, own()), 3, own())
	tells(t, asks(t, false, heard{bal(1, 1), l}, heard{}, heard{}), 2, bal(9, 4), 1, 2, upTo(0, 5), l)
	l = with(with(l, 1, odd(9)), 4, own())
	tells(t, asks(t, false, heard{bal(1, 1), l}, heard{}, heard{}), 2, bal(9, 4), 1, 4, upTo(0, 5), l)
}

// P13.1: only the newest ledger is asked for the round's Id, not those that were told beside it.
func TestHasOlder(t *testing.T) {
	has := with(row(1, 2), 0, own())
	goesOn(t, row(3), heard{bal(1, 1), has}, heard{bal(2, 2), row(3)}, heard{none(), has})
	goesOn(t, nil, heard{bal(1, 1), has}, heard{bal(2, 2), nil}, heard{none(), has})
	tells(t, asks(t, false, heard{bal(2, 2), has}, heard{bal(1, 1), row(3)}, heard{}), 2, bal(9, 4), 1, 1, upTo(0, 5), has)
}

// P13.1: newest ledgers of MaxLedger commands less one, just MaxLedger, and more, with and without the command: without it there is no room from MaxLedger on; a round that reads needs none.
func TestFull(t *testing.T) {
	for _, n := range []int{maxLedger - 2, maxLedger - 1, maxLedger, maxLedger + 1, maxLedger + 5} {
		l := floors(n)
		tells(t, asks(t, true, heard{}, heard{bal(1, 1), l}, heard{}), 2, bal(9, 4), 1, n, upTo(0, 5), l)
		r := asks(t, false, heard{}, heard{bal(1, 1), l}, heard{})
		if n < maxLedger {
			tells(t, r, 2, bal(9, 4), 1, n+1, upTo(0, 5), behind(l, own()))
			holds(t, text(r.Ledger()) == text(behind(l, own())), "the ledger is another one")
		} else {
			tells(t, r, 4, bal(9, 4), 1, 0, nil, nil)
		}
		for _, i := range []int{0, n / 2, n - 1} {
			has := with(l, i, own())
			r := asks(t, false, heard{}, heard{bal(1, 1), has}, heard{})
			tells(t, r, 2, bal(9, 4), 1, i+1, upTo(0, 5), has)
			holds(t, text(r.Ledger()) == text(has), "the ledger is another one")
			tells(t, asks(t, true, heard{}, heard{bal(1, 1), has}, heard{}), 2, bal(9, 4), 1, n, upTo(0, 5), has)
		}
	}
}

// P13.1: it is the newest ledger whose room is asked, when more than half have promised, and neither sooner nor of another one.
func TestFullNewest(t *testing.T) {
	full := floors(maxLedger)
	goesOn(t, row(1), heard{bal(1, 1), full}, heard{bal(2, 2), row(1)}, heard{none(), full})
	r := asks(t, false, heard{bal(1, 1), full}, heard{bal(1, 0), full})
	tells(t, r, 1, bal(9, 4), 1, 0, []int{1, 2, 3}, nil)
	full[7] = own()
	holds(t, r.Promise(2, bal(9, 4), bal(1, 2), full), "a promise")
	tells(t, r, 2, bal(9, 4), 1, 8, upTo(0, 5), full)
}

// P13.1: the promise for which there is no room is answered true, with any number of nodes; none is missing then, and nothing is accepted any more.
func TestFullNodes(t *testing.T) {
	for nodes := 1; nodes <= maxWidth; nodes++ {
		r, b := promised(t, nodes, false, bal(2, 2), floors(maxLedger)), bal(2, 2)
		tells(t, r, 4, b, 1, 0, nil, nil)
		for from := range nodes {
			refuses(t, r, "an accepting", func() bool { return r.Accepted(from, b) })
			refuses(t, r, "a promise", func() bool { return r.Promise(from, b, bal(1, 1), nil) })
		}
		beginsAs(t, r, bal(3, 3), api.ErrState)
	}
}

// P13.1: a ledger is there in StageTell and StageDone alone, and with it a place.
func TestNoLedger(t *testing.T) {
	for _, reads := range []bool{false, true} {
		for _, r := range everyStage(t, 3, reads) {
			there := r.Stage() == StageTell || r.Stage() == StageDone
			holds(t, (len(r.Ledger()) > 0) == there && (r.Place() > 0) == there, "stage", r.Stage(), ": place", r.Place(), "ledger", text(r.Ledger()))
		}
	}
	r := asks(t, true, heard{bal(1, 1), row(1, 2)}, heard{bal(2, 2), row(3)})
	tells(t, r, 1, bal(9, 4), 1, 0, []int{1, 2, 3}, nil)
}

// P13.1: a round that reads an empty ledger lets the empty ledger be accepted, at place 0.
func TestReadsNothing(t *testing.T) {
	r := asks(t, true, heard{}, heard{}, heard{})
	tells(t, r, 2, bal(9, 4), 1, 0, upTo(0, 5), nil)
	for from := range 3 {
		holds(t, r.Accepted(from, bal(9, 4)), "Accepted of", from)
	}
	tells(t, r, 3, bal(9, 4), 1, 0, nil, nil)
}
