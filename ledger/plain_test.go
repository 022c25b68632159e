package ledger

import (
	"bollard/api"
	"bollard/catalog"
	"fmt"
	"slices"
	"strings"
	"testing"
)

// text is all that something holds; two that mean the same have the same text.
func text(x any) string { return fmt.Sprintf("%+v", x) }

// line is a command as one line, which (while texts have no line ends) no other command has, and which isn't the beginning of another one's.
func line(c api.Command) string { return text(c) + "\n" }

func lines(l []api.Command) string {
	var out strings.Builder
	for _, c := range l {
		out.WriteString(line(c))
	}
	return out.String()
}

// The other implementation: a ledger is gone over once, from its end to its beginning, and each id, node and boot has its entry in a map.
type plainLedger struct {
	lines  []string
	places map[api.Id]int
	seqs   map[[2]int][]int
}

func plainOf(l []api.Command) plainLedger {
	p := plainLedger{places: map[api.Id]int{}, seqs: map[[2]int][]int{}}
	for i := len(l) - 1; i >= 0; i-- {
		id := l[i].Id
		p.places[id] = i + 1
		p.lines = append(p.lines, line(l[i]))
		p.seqs[[2]int{id.Node, id.Boot}] = append(p.seqs[[2]int{id.Node, id.Boot}], id.Seq)
	}
	slices.Reverse(p.lines)
	return p
}

// put is the lines of the ledger behind Put, the place, and the error.
func (p plainLedger) put(c api.Command) (string, int, error) {
	if place := p.places[c.Id]; place > 0 {
		return strings.Join(p.lines, ""), place, nil
	}
	if len(p.lines) > 4095 {
		return "", 0, api.ErrFull
	}
	return strings.Join(p.lines, "") + line(c), len(p.lines) + 1, nil
}

func (p plainLedger) newest(node, boot int) int {
	seqs := append([]int{-1}, p.seqs[[2]int{node, boot}]...)
	slices.Sort(seqs)
	return seqs[len(seqs)-1]
}

// plainSteps is what the ledger comes to, command by command: the catalogs ahead of the first one and behind each, and what each came to.
func plainSteps(l []api.Command) ([]api.Catalog, []api.Outcome) {
	if len(l) == 0 {
		return []api.Catalog{{}}, nil
	}
	catalogs, outcomes := plainSteps(l[:len(l)-1])
	c, o := catalog.Apply(catalogs[len(l)-1], l[len(l)-1])
	return append(catalogs, c), append(outcomes, o)
}

// agrees holds Put, Place and Newest of a ledger against the other implementation.
func agrees(t *testing.T, l []api.Command, c api.Command) {
	t.Helper()
	p := plainOf(l)
	wantLines, wantPlace, wantErr := p.put(c)
	m, n, err := Put(l, c)
	holds(t, lines(m) == wantLines && n == wantPlace && err == wantErr, "Put of", text(c), "onto", len(l), ":", len(m), n, err, "in the place of", wantPlace, wantErr)
	place, err := Place(l, c.Id)
	holds(t, place == p.places[c.Id] && (err == nil) == (place > 0) && (err == nil || err == api.ErrGone), "Place of", c.Id, ":", place, err, "in the place of", p.places[c.Id])
	newest := Newest(l, c.Id.Node, c.Id.Boot)
	holds(t, newest == p.newest(c.Id.Node, c.Id.Boot), "Newest of", c.Id, ":", newest, "in the place of", p.newest(c.Id.Node, c.Id.Boot))
}

// begins holds Begins against the other implementation.
func begins(t *testing.T, a, b []api.Command) bool {
	t.Helper()
	got, want := Begins(a, b), strings.HasPrefix(lines(b), lines(a))
	holds(t, got == want, "Begins of", len(a), "and", len(b), ":", got)
	return got
}

// folds holds Fold, At and Outcome of a ledger in form against the other implementation, At of every n.
func folds(t *testing.T, l []api.Command) {
	t.Helper()
	inForm(t, l)
	catalogs, outcomes := plainSteps(l)
	for n, want := range catalogs {
		got := At(l, n)
		holds(t, text(got) == text(want), "At", n, "of", len(l), ":", text(got), "in the place of", text(want))
	}
	holds(t, text(Fold(l)) == text(catalogs[len(l)]), "Fold of", len(l), ":", text(Fold(l)))
	for id, place := range plainOf(l).places {
		o, err := Outcome(l, id)
		holds(t, err == nil && o == outcomes[place-1], "Outcome of", id, ":", o, err, "in the place of", outcomes[place-1])
	}
}
