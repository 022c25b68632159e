package ledger

import (
	"bollard/api"
	"math"
	"slices"
	"testing"
)

// P12.1: the chapter's examples.
func TestExamples(t *testing.T) {
	c := makes(idOf(0, 0, 1), "aaa", 3)
	l, n, err := Put(nil, c)
	holds(t, err == nil && n == 1 && text(l) == text([]api.Command{c}), "Put:", text(l), n, err)
	m, n, err := Put(l, c)
	holds(t, err == nil && n == 1 && text(m) == text(l), "Put again:", text(m), n, err)
	for _, any := range [][]api.Command{nil, {}, l, commandsOf(story()), oddRow(0, 5), floorRow(maxLedger + 1)} {
		holds(t, Begins(nil, any) && Begins([]api.Command{}, any), "Begins of the empty ledger and", len(any))
	}
}

// P12.1: Put onto the empty ledger, onto one command and onto many, in form or not, with every field kept.
func TestPut(t *testing.T) {
	for _, empty := range [][]api.Command{nil, {}} {
		for _, c := range append(commandsOf(story()), odd(5), api.Command{}, floors(idOf(-1, -2, -3))) {
			goesOn(t, empty, c)
		}
	}
	for _, from := range [][]api.Command{nil, oddRow(100, 1), floorRow(1), oddRow(100, 9), floorRow(300)} {
		l := from
		for _, c := range append(commandsOf(story()), oddRow(0, 20)...) {
			l = goesOn(t, l, c)
		}
		holds(t, len(l) == len(from)+36, "commands:", len(l))
	}
}

// P12.1, P12.2: Put of an Id that is there, wherever it stands, with the same command and with another one that has the Id.
func TestPutThere(t *testing.T) {
	for _, l := range [][]api.Command{commandsOf(story()), oddRow(0, 1), oddRow(0, 2), oddRow(0, 7), floorRow(100)} {
		for i, c := range l {
			stays(t, l, c, i+1)
			stays(t, l, floors(c.Id), i+1)
			stays(t, l, api.Command{Id: c.Id}, i+1)
			other := odd(77)
			other.Id = c.Id
			stays(t, l, other, i+1)
			stays(t, l, makes(c.Id, "zzz", 9), i+1)
		}
	}
}

// P12.1: Ids that differ in one number alone are told apart, and an Id is told by the Id alone: not by a Piece's Blob, an Upload, or what else is the same.
func TestPutAlike(t *testing.T) {
	id := idOf(5, 6, 7)
	l := []api.Command{puts(id, "aaa", "k", "x", 1)}
	for _, other := range []api.Id{idOf(4, 6, 7), idOf(6, 6, 7), idOf(5, 5, 7), idOf(5, 7, 7), idOf(5, 6, 6), idOf(5, 6, 8), idOf(6, 5, 7), idOf(7, 6, 5), idOf(-5, 6, 7), idOf(5, -6, 7), idOf(5, 6, -7), idOf(0, 0, 0)} {
		c := l[0]
		c.Id = other
		m := goesOn(t, l, c)
		stays(t, m, c, 2)
		stays(t, m, l[0], 1)
		c.Upload = id
		goesOn(t, l, c)
		if _, err := Place(l, other); err != api.ErrGone {
			t.Error("Place of", other, err)
		}
	}
	up := []api.Command{aborts(idOf(1, 1, 1), "aaa", "k", id), {Id: idOf(1, 1, 2), Piece: api.Piece{Blob: id}}}
	goesOn(t, up, floors(id))
}

// P12.1: a ledger that has an Id more than once has it at the first one's place, and stays as it is.
func TestTwice(t *testing.T) {
	id := idOf(1, 2, 3)
	for _, places := range [][]int{{0, 1}, {0, 9}, {4, 5}, {8, 9}, {2, 4, 6}, {0, 1, 2, 3, 4, 5, 6, 7, 8, 9}} {
		l := oddRow(0, 10)
		for _, i := range places {
			l[i].Id = id
		}
		place, err := Place(l, id)
		holds(t, err == nil && place == places[0]+1, "Place of an id at", places, ":", place, err)
		stays(t, l, l[places[1]], places[0]+1)
		stays(t, l, floors(id), places[0]+1)
	}
}

// P12.1: Place of what is there, and of what isn't.
func TestPlace(t *testing.T) {
	for _, l := range [][]api.Command{nil, {}, commandsOf(story()), oddRow(0, 1), floorRow(50), {{}}, {{Id: idOf(-1, -1, -1)}}} {
		for i, c := range l {
			place, err := Place(l, c.Id)
			holds(t, err == nil && place == i+1, "Place of", c.Id, ":", place, err)
		}
		for _, id := range []api.Id{idOf(9, 9, 9), idOf(0, 0, 9), idOf(3, 4, 0), idOf(3, 4, 51), idOf(math.MinInt, 0, 0), idOf(math.MaxInt, math.MaxInt, math.MaxInt)} {
			place, err := Place(l, id)
			holds(t, err == api.ErrGone && place == 0, "Place of", id, ":", place, err)
		}
	}
	place, err := Place(nil, api.Id{})
	holds(t, err == api.ErrGone && place == 0, "Place in the empty ledger of the Id of zeros:", place, err)
}

// P12.1: Put onto MaxLedger commands less one, just MaxLedger, and more: what is there is answered with its place, ahead of ErrFull.
func TestPutFull(t *testing.T) {
	whole := floorRow(maxLedger + 2)
	l := goesOn(t, whole[:maxLedger-2], whole[maxLedger-2])
	l = goesOn(t, l, whole[maxLedger-1])
	holds(t, len(l) == maxLedger && text(l) == text(whole[:maxLedger]), "commands:", len(l))
	for _, n := range []int{maxLedger - 1, maxLedger, maxLedger + 1, maxLedger + 2} {
		l := whole[:n:n]
		for _, i := range []int{0, 1, n / 2, n - 2, n - 1} {
			stays(t, l, l[i], i+1)
			stays(t, l, makes(l[i].Id, "aaa", 1), i+1)
		}
		for _, c := range []api.Command{floors(idOf(3, 4, 9999)), floors(idOf(3, 5, 1)), odd(3), {}} {
			if n < maxLedger {
				stays(t, goesOn(t, l, c), c, n+1)
				continue
			}
			full(t, l, c)
		}
	}
}

// P12.1, rule 3: a ledger that took no command more takes one as soon as it has room; a refusal leaves nothing.
func TestRoomAgain(t *testing.T) {
	l := floorRow(maxLedger)
	before := text(l)
	full(t, l, odd(1))
	holds(t, text(l) == before, "a refused Put changes the ledger")
	goesOn(t, l[1:], odd(1))
	goesOn(t, slices.Clone(l[:maxLedger-1]), odd(1))
	full(t, l, odd(1))
}
