package round

import (
	"bollard/api"
	"math"
	"slices"
	"strings"
	"testing"
)

// P13.1: the chapter's example.
func TestExample(t *testing.T) {
	r := newRound(t, 3, own(), false)
	b := bal(1, 0)
	begin(t, r, b)
	holds(t, r.Promise(0, b, none(), nil) && r.Stage() == StageAsk, "the first promise")
	refuses(t, r, "node 0's second promise", func() bool { return r.Promise(0, b, none(), nil) })
	holds(t, r.Promise(2, b, none(), nil) && r.Stage() == StageTell, "the promise of one more")
	holds(t, text(r.Ledger()) == text([]api.Command{own()}), "the ledger:", text(r.Ledger()))
	holds(t, r.Accepted(1, b) && r.Stage() == StageTell && r.Accepted(2, b) && r.Stage() == StageDone, "the acceptings")
	holds(t, r.Place() == 1, "place:", r.Place())
	tells(t, r, 3, b, 1, 1, nil, []api.Command{own()})
}

// P13.1: the stages are the chapter's numbers.
func TestStages(t *testing.T) {
	holds(t, StageAsk == 1 && StageTell == 2 && StageDone == 3 && StageFull == 4, "stages:", StageAsk, StageTell, StageDone, StageFull)
}

// inForm are commands in form of each Kind.
func inForm() []api.Command {
	id, up, key := idOf(15, maxTime, maxTime), idOf(0, 0, 0), strings.Repeat("~", 200)
	piece := api.Piece{Blob: id, Size: 1024, Etag: someEtag}
	return []api.Command{
		{Kind: api.CmdMake, Id: id, Bucket: "aaa", Time: maxTime},
		{Kind: api.CmdDrop, Id: id, Bucket: strings.Repeat("a", 63)},
		{Kind: api.CmdPut, Id: id, Bucket: "a.b", Key: key, Piece: piece},
		{Kind: api.CmdDelete, Id: id, Bucket: "aaa", Key: " "},
		{Kind: api.CmdStart, Id: id, Bucket: "aaa", Key: "k"},
		{Kind: api.CmdPart, Id: id, Bucket: "aaa", Key: "k", Upload: up, Part: 16, Piece: piece},
		{Kind: api.CmdComplete, Id: id, Bucket: "aaa", Key: "k", Upload: up, Parts: []int{1, 16}, Time: 1},
		{Kind: api.CmdAbort, Id: id, Bucket: "aaa", Key: "k", Upload: up},
		{Kind: api.CmdRule, Id: id, Bucket: "aaa", Days: maxTime},
		{Kind: api.CmdExpire, Id: id, Time: 3},
		{Kind: api.CmdFloor, Id: id},
		{Kind: api.CmdFloor, Parts: []int{}},
		own(), put(1),
	}
}

// outOfForm are commands that aren't in form, by their Id, their Kind or another field.
func outOfForm() []api.Command {
	id := idOf(1, 2, 3)
	return []api.Command{
		{}, odd(1), {Kind: 12, Id: id}, {Kind: -1, Id: id}, {Kind: math.MaxInt, Id: id},
		{Kind: api.CmdFloor, Id: idOf(16, 0, 0)}, {Kind: api.CmdFloor, Id: idOf(-1, 0, 0)}, {Kind: api.CmdFloor, Id: idOf(0, maxTime+1, 0)}, {Kind: api.CmdFloor, Id: idOf(0, 0, -1)},
		{Kind: api.CmdFloor, Id: id, Time: 1}, {Kind: api.CmdFloor, Id: id, Parts: []int{1}}, {Kind: api.CmdFloor, Id: id, Bucket: "aaa"},
		{Kind: api.CmdMake, Id: id, Bucket: "aaa", Key: "k"}, {Kind: api.CmdMake, Id: id, Bucket: "ab"}, {Kind: api.CmdMake, Id: id, Bucket: "aaa", Time: maxTime + 1},
		{Kind: api.CmdPut, Id: id, Bucket: "aaa", Key: "k", Piece: api.Piece{Blob: idOf(1, 2, 4), Etag: someEtag}},
		{Kind: api.CmdComplete, Id: id, Bucket: "aaa", Key: "k", Upload: id, Parts: []int{2, 2}},
	}
}

// P13.1, rule 2: New with numbers of nodes that are none, with a command in form and with one that isn't, that reads and that doesn't: ErrNumber ahead of ErrState.
func TestNewNodes(t *testing.T) {
	for _, nodes := range []int{math.MinInt, -17, -1, 0, 17, 18, 255, math.MaxInt} {
		for _, c := range append(inForm(), outOfForm()...) {
			for _, reads := range []bool{false, true} {
				r, err := New(nodes, c, reads)
				holds(t, r == nil && err == api.ErrNumber, "New of", nodes, "nodes:", r, err)
			}
		}
	}
}

// P13.1: New with each number of nodes that there may be: a command in form is taken, one that isn't is refused, unless the round reads.
func TestNew(t *testing.T) {
	for nodes := 1; nodes <= maxWidth; nodes++ {
		for _, c := range inForm() {
			tells(t, newRound(t, nodes, c, false), 0, none(), 0, 0, nil, nil)
			tells(t, newRound(t, nodes, c, true), 0, none(), 0, 0, nil, nil)
		}
		for _, c := range outOfForm() {
			r, err := New(nodes, c, false)
			holds(t, r == nil && err == api.ErrState, "New with", text(c), ":", r, err)
			tells(t, newRound(t, nodes, c, true), 0, none(), 0, 0, nil, nil)
		}
	}
}

// P13.1, P13.2: a round of each number of nodes is done by its command, whichever it is, and puts just that behind the ledger that it was told.
func TestCommands(t *testing.T) {
	for nodes := 1; nodes <= maxWidth; nodes++ {
		for _, c := range inForm() {
			r, b := newRound(t, nodes, c, false), bal(5, 5)
			begin(t, r, b)
			for from := range half(nodes) {
				holds(t, r.Promise(nodes-1-from, b, bal(4, 4), row(1, 2)), "Promise of", nodes-1-from)
			}
			tells(t, r, 2, b, 1, 3, upTo(0, nodes), behind(row(1, 2), c))
			for from := range half(nodes) {
				holds(t, r.Accepted(from, b), "Accepted of", from)
			}
			tells(t, r, 3, b, 1, 3, nil, behind(row(1, 2), c))
		}
	}
}

// P13.1: the command of a round that reads doesn't matter: it is put nowhere, also if the ledger has its Id or is full.
func TestReads(t *testing.T) {
	for _, c := range append(inForm(), outOfForm()...) {
		for _, l := range [][]api.Command{nil, row(1), with(row(1, 2, 3), 1, c), floors(maxLedger), floors(maxLedger + 1)} {
			r, b := newRound(t, 3, c, true), bal(2, 2)
			begin(t, r, b)
			holds(t, r.Promise(1, b, bal(1, 1), l) && r.Promise(0, b, none(), nil), "promises")
			tells(t, r, 2, b, 1, len(l), []int{0, 1, 2}, l)
			holds(t, r.Accepted(2, b) && r.Accepted(1, b), "acceptings")
			tells(t, r, 3, b, 1, len(l), nil, l)
		}
	}
}

// P13.1: two rounds of the same command are two rounds: what comes to one of them doesn't come to the other.
func TestTwoRounds(t *testing.T) {
	c := own()
	first, second := newRound(t, 3, c, false), newRound(t, 3, c, false)
	begin(t, first, bal(2, 0))
	tells(t, second, 0, none(), 0, 0, nil, nil)
	begin(t, second, bal(2, 0))
	holds(t, first.Promise(0, bal(2, 0), bal(1, 0), row(1)) && first.Promise(1, bal(2, 0), none(), nil), "promises")
	tells(t, second, 1, bal(2, 0), 1, 0, []int{0, 1, 2}, nil)
	holds(t, second.Promise(2, bal(2, 0), none(), nil), "a promise")
	tells(t, first, 2, bal(2, 0), 1, 2, []int{0, 1, 2}, behind(row(1), c))
	begin(t, second, bal(3, 1))
	holds(t, first.Accepted(0, bal(2, 0)) && first.Accepted(2, bal(2, 0)), "acceptings")
	tells(t, first, 3, bal(2, 0), 1, 2, nil, behind(row(1), c))
	tells(t, second, 1, bal(3, 1), 2, 0, []int{0, 1, 2}, nil)
}

// P13.1: asking changes nothing, however often and in whichever stage.
func TestAsking(t *testing.T) {
	for _, r := range everyStage(t, 4, false) {
		before := text(*r)
		want := told(r)
		for range 5 {
			holds(t, told(r) == want, told(r), "in the place of", want)
			for range r.Missing() {
				break
			}
		}
		holds(t, text(*r) == before, "asking changes", before, "to", text(*r))
		holds(t, slices.IsSorted(missing(r)), "missing:", missing(r))
	}
}

// everyStage are rounds with the ballot {7, 3}: of stage 0 (with none), of StageAsk without and with answers, of StageTell without and with answers, of StageDone, and, unless it reads, of StageFull.
func everyStage(t *testing.T, nodes int, reads bool) []*Round {
	t.Helper()
	b := bal(7, 3)
	asks, tells := begun(t, nodes, reads, b), promised(t, nodes, reads, b, row(1, 2))
	holds(t, nodes == 1 || asks.Promise(nodes-1, b, bal(2, 2), row(5)) && tells.Accepted(nodes-1, b), "answers of", nodes-1)
	out := []*Round{newRound(t, nodes, own(), reads), begun(t, nodes, reads, b), asks, promised(t, nodes, reads, b, row(1, 2)), tells, done(t, nodes, reads, b, row(1, 2))}
	if !reads {
		out = append(out, promised(t, nodes, false, b, floors(maxLedger)))
	}
	for i, r := range out {
		holds(t, r.Stage() == []int{0, 1, 1, 2, 2, 3, 4}[i], "stage", i, ":", r.Stage())
	}
	return out
}
