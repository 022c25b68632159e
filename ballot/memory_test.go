package ballot

import (
	"bollard/api"
	"slices"
	"testing"
	"unsafe"
)

// changing is a text whose bytes change afterwards, as no text of the language does: what was kept of it would change too.
func changing(text string) (string, func()) {
	b := []byte(text)
	return unsafe.String(&b[0], len(b)), func() {
		for i := range b {
			b[i] = '#'
		}
	}
}

// roomy is the ledger with spare room behind it and behind each command's Parts, filled with something, and what changes its texts.
func roomy(ledger []api.Command) ([]api.Command, func()) {
	var out []api.Command
	var all []func()
	handed := func(text string) string {
		changed, change := changing(text)
		all = append(all, change)
		return changed
	}
	for _, c := range ledger {
		c.Bucket, c.Key, c.Piece.Etag = handed(c.Bucket), handed(c.Key), handed(c.Piece.Etag)
		c.Parts = append(slices.Clone(c.Parts), 7, 7, 7)[:len(c.Parts)]
		out = append(out, c)
	}
	return append(out, row(90, 91, 92)...)[:len(ledger)], func() {
		for _, change := range all {
			change()
		}
	}
}

// inside is all that a ledger holds, spare room included.
func inside(ledger []api.Command) string {
	out := ""
	for _, c := range ledger[:cap(ledger)] {
		out += text([]api.Command{c}) + text([]api.Command{{Parts: c.Parts[:cap(c.Parts)]}})
	}
	return out
}

// overwrite writes over all that a ledger holds, spare room included.
func overwrite(ledger []api.Command) {
	for i := range ledger[:cap(ledger)] {
		c := &ledger[:cap(ledger)][i]
		for k := range c.Parts[:cap(c.Parts)] {
			c.Parts[:cap(c.Parts)][k] = -9
		}
		*c = api.Command{Kind: -9, Bucket: "over", Parts: c.Parts}
	}
}

// clean asks that nothing is handed out behind a ledger's length, nor behind that of a command's Parts.
func clean(t *testing.T, ledger []api.Command) {
	t.Helper()
	for _, c := range ledger[:cap(ledger)][len(ledger):] {
		if text([]api.Command{c}) != text([]api.Command{{}}) {
			t.Fatal("something is handed out behind an answer:", c)
		}
	}
	for _, c := range ledger {
		for _, n := range c.Parts[:cap(c.Parts)][len(c.Parts):] {
			if n != 0 {
				t.Fatal("something is handed out behind a command's Parts:", n)
			}
		}
	}
}

func ledgers() [][]api.Command {
	noParts, few := row(1, 2, 3), row(4, 5)
	noParts[1].Parts = nil
	few[0].Parts = few[0].Parts[:1]
	return [][]api.Command{nil, {}, row(1), noParts, few, row(1, 2, 3, 4, 5, 6, 7)}
}

// Rule 4: Accept changes nothing of what it is handed, reads nothing behind it, and keeps none of it, whether it takes it or not.
func TestAcceptMemory(t *testing.T) {
	for _, ledger := range ledgers() {
		list, change := roomy(ledger)
		before := inside(list)
		a, refuses := newAcceptor(t, 0), holding(t)
		good(t, a.Accept(bal(1, 0), list))
		if refuses.Accept(bal(1, 0), list) != api.ErrBallot || refuses.Accept(none(), list) != api.ErrNumber {
			t.Fatal("an Accept that is to be refused")
		}
		if inside(list) != before {
			t.Fatal("Accept changes what it is handed")
		}
		change()
		overwrite(list)
		after := inside(list)
		if b, l := a.Accepted(); b != bal(1, 0) || text(l) != text(ledger) {
			t.Fatal("what was handed in is kept:", text(l))
		}
		if _, l, err := a.Prepare(bal(1, 1)); text(l) != text(ledger) || err != nil {
			t.Fatal("what was handed in is kept:", text(l), err)
		}
		if told(refuses) != told(holding(t)) {
			t.Fatal("what was refused is kept:", told(refuses))
		}
		good(t, a.Accept(bal(2, 0), row(50, 51, 52, 53)))
		if inside(list) != after {
			t.Fatal("a later call changes what Accept was handed")
		}
	}
}

// answers are a ledger as Prepare and as Accepted answer it, twice each.
func answers(t *testing.T, a *Acceptor, b api.Ballot) [][]api.Command {
	t.Helper()
	var out [][]api.Command
	for range 2 {
		_, prepared, err := a.Prepare(b)
		good(t, err)
		_, accepted := a.Accepted()
		out = append(out, prepared, accepted)
	}
	return out
}

// Rule 4: what is answered shares memory with nothing: not with what is held, not with what was answered ahead or is later, not with what is handed in.
func TestAnswerMemory(t *testing.T) {
	for _, ledger := range ledgers() {
		a := newAcceptor(t, 0)
		good(t, a.Accept(bal(1, 0), ledger))
		for i := range 4 {
			all := answers(t, a, bal(1, 1))
			clean(t, all[i])
			overwrite(all[i])
			for k, l := range append(all, answers(t, a, bal(1, 1))...) {
				if k != i && text(l) != text(ledger) {
					t.Fatal("two answers share memory:", text(l))
				}
			}
		}
		kept := answers(t, a, bal(1, 1))
		good(t, a.Accept(bal(1, 2), kept[0]), a.Accept(bal(2, 0), row(50, 51, 52, 53)), a.Accept(bal(2, 0), nil))
		for _, l := range kept {
			if text(l) != text(ledger) {
				t.Fatal("what is done to an acceptor changes what it answered:", text(l))
			}
		}
	}
}

// Rule 4: two acceptors that are handed the same ledger, one of them as the other one answered it, share none of it; nor do the Parts of two commands.
func TestAcceptorsMemory(t *testing.T) {
	first, second := newAcceptor(t, 0), newAcceptor(t, 1)
	ledger := row(1, 2)
	ledger[1].Parts = ledger[0].Parts
	want := text(ledger)
	good(t, first.Accept(bal(1, 0), ledger))
	_, l, err := first.Prepare(bal(2, 1))
	good(t, err, second.Accept(bal(2, 1), l))
	l[0].Parts[0] = -9
	if l[1].Parts[0] == -9 {
		t.Error("the Parts of two commands share memory")
	}
	overwrite(l)
	for _, a := range []*Acceptor{first, second} {
		if _, l := a.Accepted(); text(l) != want {
			t.Error("an acceptor shares memory with another one:", text(l))
		}
	}
}
