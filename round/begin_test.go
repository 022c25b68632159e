package round

import (
	"bollard/api"
	"math"
	"slices"
	"testing"
)

// P13.1, rules 2 and 3: Begin in each stage with ballots that aren't legal, below its own, its own, and above it; ErrState ahead of ErrBallot, and a refused Begin changes nothing.
func TestBegin(t *testing.T) {
	for _, reads := range []bool{false, true} {
		for _, nodes := range []int{1, 2, 3, 4, 16} {
			for _, stage := range everyStage(t, nodes, reads) {
				for _, b := range ballots() {
					r, want := as(stage), error(nil)
					switch {
					case r.Stage() > StageTell:
						want = api.ErrState
					case b.Round < 1 || b.Round > 1<<40 || b.Node < 0 || b.Node > 15:
						want = api.ErrBallot
					case r.Stage() > 0 && (b.Round < 7 || b.Round == 7 && b.Node < 4):
						want = api.ErrBallot
					}
					beginsAs(t, r, b, want)
				}
			}
		}
	}
}

// beginsAs asks of Begin that error, and what the round tells then.
func beginsAs(t *testing.T, r *Round, b api.Ballot, want error) {
	t.Helper()
	before, nodes, times := text(*r)+told(r), r.nodes, r.Begun()
	err := r.Begin(b)
	holds(t, err == want, "Begin with", b, "in stage", r.Stage(), ":", err, "in the place of", want)
	if want != nil {
		holds(t, text(*r)+told(r) == before, "a Begin that is refused changes", before, "to", told(r))
		return
	}
	tells(t, r, 1, b, times+1, 0, upTo(0, nodes), nil)
}

// P13.1: a ballot is above the round's by its Round, then by its Node alone.
func TestBeginAbove(t *testing.T) {
	for _, c := range []struct {
		first, second api.Ballot
		want          error
	}{
		{bal(1, 0), bal(1, 0), api.ErrBallot}, {bal(1, 0), bal(1, 1), nil}, {bal(1, 1), bal(1, 0), api.ErrBallot}, {bal(1, 15), bal(2, 0), nil}, {bal(2, 0), bal(1, 15), api.ErrBallot},
		{bal(maxTime, 14), bal(maxTime, 15), nil}, {bal(maxTime, 15), bal(maxTime, 15), api.ErrBallot}, {bal(maxTime, 15), bal(maxTime+1, 0), api.ErrBallot}, {bal(maxTime, 15), bal(maxTime, 16), api.ErrBallot},
		{bal(1, 0), bal(2, -1), api.ErrBallot}, {bal(1, 0), bal(2, 16), api.ErrBallot}, {bal(1, 0), bal(math.MaxInt, 0), api.ErrBallot}, {bal(maxTime-1, 0), bal(maxTime, 0), nil},
	} {
		beginsAs(t, begun(t, 3, false, c.first), c.second, c.want)
	}
}

// P13.1: a Node that no node of this round has is legal as well, as long as it is below MaxWidth.
func TestBeginNode(t *testing.T) {
	for nodes := 1; nodes <= maxWidth; nodes++ {
		r := newRound(t, nodes, own(), false)
		for node := range maxWidth {
			beginsAs(t, r, bal(1, node), nil)
		}
		holds(t, r.Begun() == maxWidth, "begun:", r.Begun())
	}
}

// P13.1: behind a second Begin the first one's answers and ledgers count no more, whichever stage they led to, and its ballot neither.
func TestBeginAnew(t *testing.T) {
	for _, nodes := range []int{1, 2, 3, 4, 5, 16} {
		for i := range 5 {
			r := everyStage(t, nodes, false)[i]
			old, times := r.Ballot(), r.Begun()
			begin(t, r, bal(8, 0))
			tells(t, r, 1, bal(8, 0), times+1, 0, upTo(0, nodes), nil)
			refuses(t, r, "a promise of the ballot before", func() bool { return r.Promise(0, old, none(), nil) })
			refuses(t, r, "an accepting of the ballot before", func() bool { return r.Accepted(0, old) })
			for from := range half(nodes) {
				holds(t, r.Stage() == StageAsk && r.Promise(from, bal(8, 0), none(), row(9)), "Promise of", from)
			}
			tells(t, r, 2, bal(8, 0), times+1, 1, upTo(0, nodes), []api.Command{own()})
		}
	}
}

// P13.1: the newest ballot is none behind each Begin: one below that of the ballot before counts again.
func TestBeginNewest(t *testing.T) {
	r := begun(t, 5, false, bal(9, 0))
	holds(t, r.Promise(0, bal(9, 0), bal(8, 8), row(1, 2, 3)) && r.Promise(1, bal(9, 0), bal(7, 7), row(4)), "promises")
	begin(t, r, bal(9, 1))
	holds(t, r.Promise(0, bal(9, 1), none(), nil) && r.Promise(1, bal(9, 1), bal(1, 0), row(5, 6)) && r.Promise(2, bal(9, 1), none(), nil), "promises")
	tells(t, r, 2, bal(9, 1), 2, 3, upTo(0, 5), behind(row(5, 6), own()))
	begin(t, r, bal(10, 0))
	for from := range 3 {
		holds(t, r.Promise(from, bal(10, 0), none(), row(7)), "Promise of", from)
	}
	tells(t, r, 2, bal(10, 0), 3, 1, upTo(0, 5), []api.Command{own()})
}

// P13.1, P13.2: a round that began anew and is told its own ledger of the ballot before has its command once.
func TestBeginOwn(t *testing.T) {
	r := promised(t, 3, false, bal(3, 0), row(1))
	mine := r.Ledger()
	begin(t, r, bal(4, 0))
	holds(t, r.Promise(1, bal(4, 0), bal(3, 0), mine) && r.Promise(2, bal(4, 0), bal(1, 1), row(1)), "promises")
	tells(t, r, 2, bal(4, 0), 2, 2, upTo(0, 3), behind(row(1), own()))
	begin(t, r, bal(5, 0))
	longer := behind(mine, odd(7), odd(8))
	holds(t, r.Promise(1, bal(5, 0), bal(3, 0), mine) && r.Promise(2, bal(5, 0), bal(4, 2), longer), "promises")
	tells(t, r, 2, bal(5, 0), 3, 2, upTo(0, 3), longer)
}

// P13.1: Begun counts the Begins without an error alone, also many of them.
func TestBegun(t *testing.T) {
	r := newRound(t, 3, own(), false)
	for i := range 500 {
		holds(t, r.Begun() == i, "begun:", r.Begun(), "in the place of", i)
		beginsAs(t, r, bal(1+i/16, i%16), nil)
		beginsAs(t, r, bal(1+i/16, i%16), api.ErrBallot)
		beginsAs(t, r, bal(0, 3), api.ErrBallot)
		r.Promise(i%4, bal(1+i/16, i%16), none(), nil)
		r.Accepted(i%4, bal(1+i/16, i%16))
	}
	for range 3 {
		r := done(t, 3, false, bal(4, 4), nil)
		beginsAs(t, r, bal(5, 5), api.ErrState)
		holds(t, r.Begun() == 1, "begun:", r.Begun())
	}
}

// P13.1: no Begin leads out of StageDone and StageFull, and what was agreed on stays.
func TestEnd(t *testing.T) {
	for _, r := range everyStage(t, 4, false)[5:] {
		before := told(r)
		for _, b := range slices.Concat(ballots(), []api.Ballot{bal(7, 3)}) {
			beginsAs(t, r, b, api.ErrState)
		}
		for from := -1; from < 5; from++ {
			refuses(t, r, "a promise", func() bool { return r.Promise(from, bal(7, 3), bal(6, 6), row(1)) })
			refuses(t, r, "an accepting", func() bool { return r.Accepted(from, bal(7, 3)) })
		}
		holds(t, told(r) == before, told(r), "in the place of", before)
	}
}
