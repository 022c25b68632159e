package round

import (
	"bollard/api"
	"fmt"
	"math"
	"math/rand/v2"
	"slices"
	"testing"
)

// maxLedger, maxTime and maxWidth are the document's numbers.
const (
	maxLedger = 4096
	maxTime   = 1099511627776
	maxWidth  = 16
	someEtag  = "2cf24dba5fb0a30e26e83b2ac5b9e29e1b161e5c1fa7425e73043362938b9824"
)

// source gives the same numbers on every run.
func source() *rand.Rand { return rand.New(rand.NewPCG(13, 4096)) }

func bal(round, node int) api.Ballot { return api.Ballot{Round: round, Node: node} }

func none() api.Ballot { return api.Ballot{} }

func idOf(node, boot, seq int) api.Id { return api.Id{Node: node, Boot: boot, Seq: seq} }

// holds tells what was asked, if it doesn't hold.
func holds(t *testing.T, ok bool, what ...any) {
	t.Helper()
	if !ok {
		t.Fatal(what...)
	}
}

// text is all that something holds; two that mean the same have the same text.
func text(x any) string { return fmt.Sprintf("%+v", x) }

// own is the command of most rounds here: one in form that has texts and Parts.
func own() api.Command {
	return api.Command{Kind: api.CmdComplete, Id: idOf(1, 2, 3), Bucket: "aaa", Key: "big", Upload: idOf(1, 2, 1), Parts: []int{1, 2, 5}, Time: 9}
}

// put is another command in form, which has an Etag.
func put(seq int) api.Command {
	id := idOf(2, 0, seq)
	return api.Command{Kind: api.CmdPut, Id: id, Bucket: "aaa", Key: fmt.Sprint("k", seq), Piece: api.Piece{Blob: id, Size: 5, Etag: someEtag}, Time: seq}
}

// odd is a command with something in each field, which is in no form, another one for each number.
func odd(n int) api.Command {
	id := func(k int) api.Id { return idOf(n+k, n+k+1, n+k+2) }
	word := fmt.Sprint("text ", n, " of ")
	return api.Command{
		Kind: n%11 + 1, Id: id(10), Bucket: word + "bucket", Key: word + "key", Upload: id(20),
		Piece: api.Piece{Blob: id(30), Size: n + 40, Etag: word + "etag"},
		Part:  n + 50, Parts: []int{n + 60, n + 70, n + 80}, Time: n + 90, Days: n + 100,
	}
}

// row is a ledger of the odd commands with those numbers.
func row(numbers ...int) []api.Command {
	var out []api.Command
	for _, n := range numbers {
		out = append(out, odd(n))
	}
	return out
}

// floors is a ledger of that many floors, whose ids have the numbers from 1 on.
func floors(n int) []api.Command {
	var out []api.Command
	for i := range n {
		out = append(out, api.Command{Kind: api.CmdFloor, Id: idOf(3, 4, i+1)})
	}
	return out
}

// with is the ledger with that command in the place of the one at i.
func with(l []api.Command, i int, c api.Command) []api.Command {
	out := slices.Clone(l)
	out[i] = c
	return out
}

// behind is the ledger with those commands behind it.
func behind(l []api.Command, more ...api.Command) []api.Command { return slices.Concat(l, more) }

func newRound(t *testing.T, nodes int, c api.Command, reads bool) *Round {
	t.Helper()
	r, err := New(nodes, c, reads)
	holds(t, err == nil && r != nil, "a new round of", nodes, "nodes:", err)
	return r
}

// begun is a round that began with a ballot.
func begun(t *testing.T, nodes int, reads bool, b api.Ballot) *Round {
	t.Helper()
	r := newRound(t, nodes, own(), reads)
	begin(t, r, b)
	return r
}

func begin(t *testing.T, r *Round, b api.Ballot) {
	t.Helper()
	err := r.Begin(b)
	holds(t, err == nil, "Begin with", b, ":", err)
}

// as is another round that is as far; the one ahead stays as it is. (A round doesn't write into a list that it holds.)
func as(r *Round) *Round {
	other := *r
	return &other
}

// half is how many of n are more than half of them.
func half(n int) int { return (n + 2) / 2 }

// promised is a round to which the nodes from 0 on have promised, as many as it takes, all of whom told this ledger.
func promised(t *testing.T, nodes int, reads bool, b api.Ballot, l []api.Command) *Round {
	t.Helper()
	r := begun(t, nodes, reads, b)
	for from := range half(nodes) {
		holds(t, r.Promise(from, b, bal(1, 1), l), "Promise of", from)
	}
	return r
}

// done is a round that more than half have accepted.
func done(t *testing.T, nodes int, reads bool, b api.Ballot, l []api.Command) *Round {
	t.Helper()
	r := promised(t, nodes, reads, b, l)
	for from := range half(nodes) {
		holds(t, r.Accepted(from, b), "Accepted of", from)
	}
	holds(t, r.Stage() == StageDone, "stage:", r.Stage())
	return r
}

// missing are the nodes that Missing goes over.
func missing(r *Round) []int { return slices.Collect(r.Missing()) }

// upTo are the numbers from the first one on, below the last one.
func upTo(from, to int) []int {
	var out []int
	for i := from; i < to; i++ {
		out = append(out, i)
	}
	return out
}

// told is all that a round tells of itself. (Long ledgers are told in short, by what differs among those here.)
func told(r *Round) string {
	return fmt.Sprint("stage ", r.Stage(), " ballot ", r.Ballot(), " begun ", r.Begun(), " place ", r.Place(), " missing ", missing(r), " ledger ", inShort(r.Ledger()))
}

func inShort(l []api.Command) string {
	if len(l) < 50 {
		return text(l)
	}
	return fmt.Sprint(len(l), text(l[:5]), text(l[len(l)-5:]))
}

// tells asks all that a round tells of itself.
func tells(t *testing.T, r *Round, stage int, b api.Ballot, begun, place int, left []int, l []api.Command) {
	t.Helper()
	want := fmt.Sprint("stage ", stage, " ballot ", b, " begun ", begun, " place ", place, " missing ", left, " ledger ", inShort(l))
	holds(t, told(r) == want, told(r), "\nin the place of\n"+want)
}

// refuses asks of a call that it answers false, and changes nothing that the round tells.
func refuses(t *testing.T, r *Round, what string, call func() bool) {
	t.Helper()
	before := told(r)
	holds(t, !call(), what, "is taken")
	holds(t, told(r) == before, what, "is refused, and changes", before, "to", told(r))
}

// ballots are those at the edges of what is legal, and some among them.
func ballots() []api.Ballot {
	var out []api.Ballot
	for _, round := range []int{math.MinInt, -1, 0, 1, 2, 6, 7, 8, maxTime - 1, maxTime, maxTime + 1, math.MaxInt} {
		for _, node := range []int{math.MinInt, -1, 0, 1, 2, 3, 4, 14, 15, 16, 17, math.MaxInt} {
			out = append(out, bal(round, node))
		}
	}
	return out
}
