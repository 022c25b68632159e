package ledger

import (
	"bollard/api"
	"fmt"
	"math"
	"slices"
	"testing"
)

// comesTo asks what an id's command came to.
func comesTo(t *testing.T, l []api.Command, id api.Id, want api.Outcome) {
	t.Helper()
	o, err := Outcome(l, id)
	holds(t, err == nil && o == want, "Outcome of", id, "in", len(l), ":", o, err, "in the place of", want)
}

func isGone(t *testing.T, l []api.Command, id api.Id) {
	t.Helper()
	o, err := Outcome(l, id)
	holds(t, err == api.ErrGone && o == api.Outcome{}, "Outcome of", id, "in", len(l), ":", o, err)
}

// P12.1: Fold and At of the empty ledger are the empty catalog.
func TestFoldEmpty(t *testing.T) {
	for _, l := range [][]api.Command{nil, {}} {
		holds(t, text(Fold(l)) == text(api.Catalog{}), "Fold:", text(Fold(l)))
		for _, n := range []int{math.MinInt, -1, 0, 1, 2, math.MaxInt} {
			holds(t, text(At(l, n)) == text(api.Catalog{}), "At", n, ":", text(At(l, n)))
		}
		isGone(t, l, idOf(0, 0, 1))
		isGone(t, l, api.Id{})
	}
}

// P12.1: At of the story with every n, against what was worked out by hand; Fold of each of its beginnings is the same.
func TestFoldStory(t *testing.T) {
	l := commandsOf(story())
	inForm(t, l)
	for n := range len(l) + 1 {
		holds(t, text(At(l, n)) == text(storyAt(n)), "At", n, ":", text(At(l, n)), "in the place of", text(storyAt(n)))
		holds(t, text(Fold(l[:n:n])) == text(storyAt(n)), "Fold of", n, ":", text(Fold(l[:n:n])))
	}
	holds(t, text(Fold(l)) == text(api.Catalog{Floors: []api.Id{idOf(3, 0, 5)}}), "Fold:", text(Fold(l)))
}

// P12.1: At with n below 1 is of none, with n at and above the number of commands of all.
func TestAtEdges(t *testing.T) {
	for _, size := range []int{1, 2, 8, 12, 16} {
		l := commandsOf(story())[:size:size]
		for _, n := range []int{math.MinInt, -4096, -size, -1, 0} {
			holds(t, text(At(l, n)) == text(api.Catalog{}), "At", n, "of", size, ":", text(At(l, n)))
		}
		for _, n := range []int{size, size + 1, 2 * size, 4096, 4097, math.MaxInt} {
			holds(t, text(At(l, n)) == text(storyAt(size)), "At", n, "of", size, ":", text(At(l, n)))
		}
		holds(t, text(At(l, 1)) == text(storyAt(1)), "At 1 of", size, ":", text(At(l, 1)))
	}
}

// P12.1: Outcome of each command of the story, done or refused, against what was worked out by hand; of what isn't there ErrGone.
func TestOutcomeStory(t *testing.T) {
	l := commandsOf(story())
	for _, one := range story() {
		comesTo(t, l, one.command.Id, one.outcome)
	}
	for i, one := range story() {
		isGone(t, l[:i:i], one.command.Id)
		isGone(t, slices.Delete(slices.Clone(l), i, i+1), one.command.Id)
	}
	for _, id := range []api.Id{{}, idOf(0, 0, 5), idOf(0, 2, 1), idOf(4, 0, 1), idOf(-1, 0, 1), idOf(math.MaxInt, math.MinInt, 1)} {
		isGone(t, l, id)
	}
}

// P12.1: Outcome tells what the command came to when it was applied, whatever came behind it.
func TestOutcomeThen(t *testing.T) {
	first, second := idOf(0, 0, 1), idOf(0, 0, 2)
	l := []api.Command{makes(first, "aaa", 1), makes(second, "aaa", 2), drops(idOf(0, 0, 3), "aaa"), makes(idOf(0, 0, 4), "aaa", 3), puts(idOf(0, 0, 5), "aaa", "k", "hello", 4), puts(idOf(0, 0, 6), "aaa", "k", "other", 5), deletes(idOf(0, 0, 7), "aaa", "k")}
	comesTo(t, l, first, api.Outcome{})
	comesTo(t, l, second, api.Outcome{Code: api.CodeExists})
	comesTo(t, l, idOf(0, 0, 4), api.Outcome{})
	comesTo(t, l, idOf(0, 0, 5), api.Outcome{Etag: helloEtag})
	comesTo(t, l, idOf(0, 0, 6), api.Outcome{Etag: etagOf("other")})
	comesTo(t, []api.Command{drops(first, "aaa"), makes(second, "aaa", 1)}, first, api.Outcome{Code: api.CodeNoBucket})
}

// P12.1: of an Id that stands twice both commands are applied, and Outcome is the first one's.
func TestFoldTwice(t *testing.T) {
	id, other := idOf(1, 1, 1), idOf(1, 1, 2)
	l := []api.Command{makes(id, "aaa", 1), makes(id, "aaa", 2), makes(id, "bbb", 3), puts(other, "aaa", "k", "hello", 4), puts(other, "ccc", "k", "hello", 4), puts(id, "bbb", "k", "hello", 5)}
	folds(t, l)
	c := Fold(l)
	holds(t, len(c.Buckets) == 2 && len(c.Buckets[0].Objects) == 1 && len(c.Buckets[1].Objects) == 1 && c.Buckets[0].Time == 1, "Fold:", text(c))
	comesTo(t, l, id, api.Outcome{})
	comesTo(t, l, other, api.Outcome{Etag: helloEtag})
	comesTo(t, l[1:], id, api.Outcome{})
	comesTo(t, l[4:], other, api.Outcome{Code: api.CodeNoBucket})
	comesTo(t, l[4:], id, api.Outcome{Code: api.CodeNoBucket})
	again := []api.Command{puts(id, "aaa", "k", "hello", 1), makes(other, "aaa", 1), puts(id, "aaa", "k", "hello", 1)}
	comesTo(t, again, id, api.Outcome{Code: api.CodeNoBucket})
	holds(t, len(Fold(again).Buckets[0].Objects) == 1, "Fold:", text(Fold(again)))
}

// P12.1: the order of the commands is that of the ledger.
func TestFoldOrder(t *testing.T) {
	m, d := makes(idOf(0, 0, 1), "aaa", 1), drops(idOf(0, 0, 2), "aaa")
	holds(t, len(Fold([]api.Command{m, d}).Buckets) == 0 && len(Fold([]api.Command{d, m}).Buckets) == 1, "Make and Drop")
	comesTo(t, []api.Command{d, m}, d.Id, api.Outcome{Code: api.CodeNoBucket})
	comesTo(t, []api.Command{m, d}, d.Id, api.Outcome{})
}

// long is a ledger in form of that many commands, most of which put one of few objects.
func long(n int) []api.Command {
	out := []api.Command{makes(idOf(0, 0, 0), "aaa", 0)}
	for i := 1; i < n; i++ {
		out = append(out, puts(idOf(i%16, i/16, i), "aaa", fmt.Sprint("k", i%3), fmt.Sprint(i), i))
	}
	return out
}

// P12.1: Fold, At and Outcome of ledgers of MaxLedger commands and of more: there is no limit but Put's.
func TestFoldLong(t *testing.T) {
	l := long(maxLedger + 4)
	for _, n := range []int{maxLedger - 1, maxLedger, maxLedger + 1, maxLedger + 4} {
		for i, o := range At(l, n).Buckets[0].Objects {
			last := n - 1 - ((n-1-i)%3+3)%3
			holds(t, o.Time == last && o.Etag == etagOf(fmt.Sprint(last)), "object", i, "At", n, ":", text(o))
		}
		holds(t, text(Fold(l[:n:n])) == text(At(l, n)), "Fold of", n)
		last := l[n-1].Id
		comesTo(t, l, last, api.Outcome{Etag: etagOf(fmt.Sprint(n - 1))})
	}
	isGone(t, l, idOf(0, 1, 0))
}
