package round

import (
	"bollard/api"
	"slices"
	"strings"
	"testing"
	"unsafe"
)

// handed are commands and ledgers as they are handed in: with texts whose bytes change afterwards, as no text of the language does, and with spare room in which something stands.
type handed struct{ changes []func() }

func (h *handed) text(s string) string {
	b := append([]byte(s), 'x')
	h.changes = append(h.changes, func() {
		for i := range b {
			b[i] = '#'
		}
	})
	return unsafe.String(&b[0], len(s))
}

// roomed is the list with spare room in which something stands; later all of it is overwritten by junk.
func roomed[T any](h *handed, list, spare []T, junk T) []T {
	out := slices.Concat(list, spare)[:len(list)]
	h.changes = append(h.changes, func() {
		for i := range out[:cap(out)] {
			out[:cap(out)][i] = junk
		}
	})
	return out
}

func (h *handed) command(c api.Command) api.Command {
	c.Bucket, c.Key, c.Piece.Etag = h.text(c.Bucket), h.text(c.Key), h.text(c.Piece.Etag)
	c.Parts = roomed(h, c.Parts, []int{7, 8, 9}, -9)
	return c
}

func (h *handed) ledger(l []api.Command, spare ...api.Command) []api.Command {
	l = slices.Clone(l)
	for i := range l {
		l[i] = h.command(l[i])
	}
	return roomed(h, l, spare, odd(-9))
}

func (h *handed) change() {
	for _, change := range h.changes {
		change()
	}
}

// inside is all that commands hold, spare room included.
func inside(l []api.Command) string {
	var out strings.Builder
	for _, c := range l[:cap(l)] {
		out.WriteString(text(c) + text(c.Parts[:cap(c.Parts)]))
	}
	return out.String()
}

// span is where a list or a text lies, spare room included.
type span struct{ from, to uintptr }

func spanOf[T any](list []T) span {
	var one T
	from := uintptr(unsafe.Pointer(unsafe.SliceData(list)))
	return span{from, from + uintptr(cap(list))*unsafe.Sizeof(one)}
}

func textSpan(s string) span {
	from := uintptr(unsafe.Pointer(unsafe.StringData(s)))
	return span{from, from + uintptr(len(s))}
}

// listSpans are a ledger's own lists, spans its texts too.
func listSpans(l []api.Command) []span {
	out := []span{spanOf(l)}
	for _, c := range l {
		out = append(out, spanOf(c.Parts))
	}
	return out
}

func spans(l []api.Command) []span {
	out := listSpans(l)
	for _, c := range l {
		out = append(out, textSpan(c.Bucket), textSpan(c.Key), textSpan(c.Piece.Etag))
	}
	return out
}

func apart(t *testing.T, a, b []span) {
	t.Helper()
	for _, x := range a {
		for _, y := range b {
			holds(t, !(x.from < y.to && y.from < x.to), "two share memory that may not")
		}
	}
}

// ownLists asks that no two lists of an answer share memory, and that nothing is handed out behind them.
func ownLists(t *testing.T, l []api.Command) {
	t.Helper()
	lists := listSpans(l)
	for i := range lists {
		apart(t, lists[i:i+1], lists[:i])
	}
	for _, c := range l[len(l):cap(l)] {
		holds(t, text(c) == text(api.Command{}), "something is handed out behind an answer:", text(c))
	}
	for _, c := range l {
		for _, n := range c.Parts[len(c.Parts):cap(c.Parts)] {
			holds(t, n == 0, "something is handed out behind a command's Parts:", n)
		}
	}
}

// overwrite writes over all that a ledger's lists hold, spare room included.
func overwrite(l []api.Command) {
	for i := range l[:cap(l)] {
		c := &l[:cap(l)][i]
		for k := range c.Parts[:cap(c.Parts)] {
			c.Parts[:cap(c.Parts)][k] = -9
		}
		*c = api.Command{Kind: -9, Bucket: "over", Parts: c.Parts}
	}
}

func ledgers() [][]api.Command {
	noParts := row(1, 2, 3)
	noParts[1].Parts = nil
	noParts[2].Parts = noParts[2].Parts[:1]
	return [][]api.Command{nil, {}, row(1), noParts, with(row(1, 2, 3), 1, own()), row(1, 2, 3, 4, 5, 6, 7)}
}

// Rule 4: New changes nothing of the command that it is handed, reads nothing behind its Parts, and keeps none of it, whether it takes it or not.
func TestNewMemory(t *testing.T) {
	for _, c := range inForm() {
		h := &handed{}
		command := h.command(c)
		before := inside([]api.Command{command})
		r, b := newRound(t, 1, command, false), bal(1, 0)
		newRound(t, 1, command, true)
		New(0, command, false)
		holds(t, inside([]api.Command{command}) == before, "New changes what it is handed")
		h.change()
		after := inside([]api.Command{command})
		begin(t, r, b)
		holds(t, r.Promise(0, b, bal(1, 0), row(1)), "a promise")
		tells(t, r, 2, b, 1, 2, []int{0}, behind(row(1), c))
		apart(t, spans(r.Ledger()), spans([]api.Command{command}))
		holds(t, inside([]api.Command{command}) == after, "a later call changes what New was handed")
	}
	h := &handed{}
	wrong := h.command(odd(4))
	before := inside([]api.Command{wrong})
	_, err := New(3, wrong, false)
	holds(t, err == api.ErrState && inside([]api.Command{wrong}) == before, "a New that is refused:", err)
}

// promises hands a ledger to a round of three, as the first or the last of two promises, and answers the round and the ledger that was handed in.
func promises(t *testing.T, h *handed, l []api.Command, reads, first bool) (*Round, []api.Command) {
	t.Helper()
	r, b := begun(t, 3, reads, bal(5, 5)), bal(5, 5)
	in := h.ledger(l, own(), odd(50), odd(60))
	before := inside(in)
	if first {
		holds(t, r.Promise(0, b, bal(4, 4), in) && r.Promise(1, b, bal(3, 3), in), "promises")
	} else {
		holds(t, r.Promise(0, b, bal(3, 3), row(8, 9)) && r.Promise(1, b, bal(4, 4), in), "promises")
	}
	r.Promise(2, b, bal(4, 5), in)
	r.Promise(7, b, bal(4, 5), in)
	holds(t, inside(in) == before, "Promise changes what it is handed")
	return r, in
}

// Rule 4: Promise changes nothing of what it is handed, reads nothing behind it, and keeps none of it, in whichever place it comes.
func TestPromiseMemory(t *testing.T) {
	for _, l := range ledgers() {
		for _, reads := range []bool{false, true} {
			for _, first := range []bool{false, true} {
				h := &handed{}
				r, in := promises(t, h, l, reads, first)
				want := l
				if !reads && times(l, own().Id) == 0 {
					want = behind(l, own())
				}
				place := len(want)
				if !reads && times(l, own().Id) > 0 {
					place = 2
				}
				apart(t, spans(r.Ledger()), spans(in))
				h.change()
				after := inside(in)
				tells(t, r, 2, bal(5, 5), 1, place, upTo(0, 3), want)
				holds(t, r.Accepted(0, bal(5, 5)) && r.Accepted(1, bal(5, 5)), "acceptings")
				tells(t, r, 3, bal(5, 5), 1, place, nil, want)
				overwrite(r.Ledger())
				holds(t, inside(in) == after, "a later call changes what Promise was handed")
			}
		}
	}
}

// Rule 4: a ledger that is kept while others are asked is not the one that was handed in.
func TestPromiseKept(t *testing.T) {
	h := &handed{}
	r, b := begun(t, 5, true, bal(5, 5)), bal(5, 5)
	in := h.ledger(row(1, 2, 3), odd(4))
	holds(t, r.Promise(0, b, bal(2, 2), in), "a promise")
	h.change()
	holds(t, r.Promise(1, b, bal(1, 1), in) && r.Promise(2, b, none(), in), "promises")
	tells(t, r, 2, b, 1, 3, upTo(0, 5), row(1, 2, 3))
}

// Rule 4: what Ledger answers shares memory with nothing: not with what is held, not with what is answered ahead or later, and no two lists of it with each other.
func TestLedgerMemory(t *testing.T) {
	for _, l := range ledgers() {
		for _, reads := range []bool{false, true} {
			r, _ := promises(t, &handed{}, l, reads, true)
			want := text(r.Ledger())
			first, second := r.Ledger(), r.Ledger()
			apart(t, spans(first), spans(second))
			apart(t, append(spans(first), spans(second)...), spans(r.ledger))
			ownLists(t, first)
			overwrite(first)
			holds(t, text(second) == want && text(r.Ledger()) == want, "two answers share memory")
			holds(t, r.Accepted(1, bal(5, 5)) && r.Accepted(2, bal(5, 5)), "acceptings")
			overwrite(r.Ledger())
			holds(t, text(r.Ledger()) == want && text(second) == want, "two answers share memory")
		}
	}
}

// Rule 4: an answer stays as it is when the round begins anew and goes on with another ledger.
func TestLedgerLater(t *testing.T) {
	r, _ := promises(t, &handed{}, row(1, 2), false, true)
	l := r.Ledger()
	begin(t, r, bal(6, 6))
	holds(t, r.Promise(0, bal(6, 6), bal(5, 5), l) && r.Promise(1, bal(6, 6), none(), nil), "promises")
	overwrite(r.Ledger())
	holds(t, text(l) == text(behind(row(1, 2), own())), "a later call changes an answer:", text(l))
	overwrite(l)
	tells(t, r, 2, bal(6, 6), 2, 3, upTo(0, 3), behind(row(1, 2), own()))
}

// Rule 4: Parts that share memory when they are handed in, of two commands, or of the round's and a ledger's, don't when they are answered; nor do two rounds of one command.
func TestSharedParts(t *testing.T) {
	numbers := []int{1, 2, 5, 9}
	mine, a, b := own(), odd(1), odd(2)
	mine.Parts, a.Parts, b.Parts = numbers[:3], numbers, numbers[1:3]
	var all [][]api.Command
	for _, r := range []*Round{newRound(t, 1, mine, false), newRound(t, 1, mine, false)} {
		begin(t, r, bal(1, 0))
		holds(t, r.Promise(0, bal(1, 0), bal(1, 0), []api.Command{a, b}), "a promise")
		l := r.Ledger()
		ownLists(t, l)
		apart(t, spans(l), []span{spanOf(numbers)})
		all = append(all, l)
	}
	overwrite(all[0])
	holds(t, text(all[1]) == text([]api.Command{a, b, mine}) && slices.Equal(numbers, []int{1, 2, 5, 9}), "two rounds share memory:", text(all[1]))
}

// Rule 4: what lies behind a ledger's length is not read: neither the round's own command nor a ledger's room are found there.
func TestBehind(t *testing.T) {
	has := with(row(1, 2, 3), 2, own())
	r, b := begun(t, 1, false, bal(1, 0)), bal(1, 0)
	holds(t, r.Promise(0, b, bal(1, 0), has[:2]), "a promise")
	tells(t, r, 2, b, 1, 3, []int{0}, has)
	full := floors(maxLedger)
	r = begun(t, 1, false, b)
	holds(t, r.Promise(0, b, b, full[:maxLedger-1]), "a promise")
	tells(t, r, 2, b, 1, maxLedger, []int{0}, behind(full[:maxLedger-1], own()))
	holds(t, text(full) == text(floors(maxLedger)), "Promise writes behind what it is handed")
}

// Rule 4: a round that is full, or that began anew, keeps nothing of a ledger that it doesn't need any more.
func TestKeepsNoMore(t *testing.T) {
	r := promised(t, 3, false, bal(2, 2), floors(maxLedger))
	holds(t, r.Stage() == StageFull && len(r.ledger) == 0, "kept in StageFull:", len(r.ledger))
	r = promised(t, 3, false, bal(2, 2), row(1, 2))
	begin(t, r, bal(3, 3))
	holds(t, len(r.ledger) == 0, "kept behind a Begin:", len(r.ledger))
	r = newRound(t, 3, own(), true)
	holds(t, text(r.command) == text(api.Command{}), "a round that reads keeps a command")
}
