package ledger

import (
	"bollard/api"
	"slices"
	"strings"
	"testing"
	"unsafe"
)

// handed are ledgers as they are handed in: with texts whose bytes change afterwards, as no text of the language does, and with spare room in which something stands.
type handed struct{ changes []func() }

func (h *handed) text(s string) string {
	b := append([]byte(s), 'x')
	h.changes = append(h.changes, func() {
		for i := range b {
			b[i] = '#'
		}
	})
	return unsafe.String(&b[0], len(s))
}

// roomed is the list with spare room in which something stands; later all of it is overwritten by junk.
func roomed[T any](h *handed, list, spare []T, junk T) []T {
	out := slices.Concat(list, spare)[:len(list)]
	h.changes = append(h.changes, func() {
		for i := range out[:cap(out)] {
			out[:cap(out)][i] = junk
		}
	})
	return out
}

func (h *handed) command(c api.Command) api.Command {
	c.Bucket, c.Key, c.Piece.Etag = h.text(c.Bucket), h.text(c.Key), h.text(c.Piece.Etag)
	c.Parts = roomed(h, c.Parts, []int{7, 8, 9}, -9)
	return c
}

func (h *handed) ledger(l, spare []api.Command) []api.Command {
	l = slices.Clone(l)
	for i := range l {
		l[i] = h.command(l[i])
	}
	return roomed(h, l, spare, odd(-9))
}

func (h *handed) change() {
	for _, change := range h.changes {
		change()
	}
}

// inside is all that commands hold, spare room included.
func inside(l []api.Command, more ...api.Command) string {
	var out strings.Builder
	for _, c := range slices.Concat(l[:cap(l)], more) {
		out.WriteString(text(c) + text(c.Parts[:cap(c.Parts)]))
	}
	return out.String()
}

// span is where a list or a text lies, spare room included.
type span struct{ from, to uintptr }

func spanOf[T any](list []T) span {
	var one T
	from := uintptr(unsafe.Pointer(unsafe.SliceData(list)))
	return span{from, from + uintptr(cap(list))*unsafe.Sizeof(one)}
}

func textSpan(s string) span {
	from := uintptr(unsafe.Pointer(unsafe.StringData(s)))
	return span{from, from + uintptr(len(s))}
}

// listSpans are the ledger's own lists, textSpans its texts.
func listSpans(l []api.Command) []span {
	out := []span{spanOf(l)}
	for _, c := range l {
		out = append(out, spanOf(c.Parts))
	}
	return out
}

func textSpans(l []api.Command) []span {
	var out []span
	for _, c := range l {
		out = append(out, textSpan(c.Bucket), textSpan(c.Key), textSpan(c.Piece.Etag))
	}
	return out
}

func catalogSpans(c api.Catalog) []span {
	out := []span{spanOf(c.Buckets), spanOf(c.Floors)}
	for _, b := range c.Buckets {
		out = append(out, textSpan(b.Name), spanOf(b.Objects), spanOf(b.Uploads))
		for _, o := range b.Objects {
			out = append(out, textSpan(o.Key), textSpan(o.Etag), spanOf(o.Pieces))
		}
		for _, u := range b.Uploads {
			out = append(out, textSpan(u.Key), spanOf(u.Parts))
			for _, p := range u.Parts {
				out = append(out, textSpan(p.Piece.Etag))
			}
		}
	}
	return out
}

func apart(t *testing.T, a, b []span) {
	t.Helper()
	for _, x := range a {
		for _, y := range b {
			holds(t, !(x.from < y.to && y.from < x.to), "an answer shares memory with what was there ahead of it")
		}
	}
}

// ownLists asks that no two lists of an answer share memory, and that nothing is handed out behind them.
func ownLists(t *testing.T, l []api.Command) {
	t.Helper()
	lists := listSpans(l)
	for i := range lists {
		apart(t, lists[i:i+1], lists[:i])
	}
	for _, c := range l[len(l):cap(l)] {
		holds(t, text(c) == text(api.Command{}), "something is handed out behind an answer:", text(c))
	}
	for _, c := range l {
		for _, n := range c.Parts[len(c.Parts):cap(c.Parts)] {
			holds(t, n == 0, "something is handed out behind a command's Parts:", n)
		}
	}
}

func ledgers() [][]api.Command {
	noParts := oddRow(0, 3)
	noParts[1].Parts = nil
	noParts[2].Parts = noParts[2].Parts[:1]
	return [][]api.Command{nil, {}, oddRow(0, 1), noParts, oddRow(0, 8), commandsOf(story())}
}

// Rule 4: Put changes nothing of what it is handed, reads nothing behind it and keeps none of it; what it answers shares memory with nothing.
func TestPutMemory(t *testing.T) {
	for _, whole := range ledgers() {
		for _, x := range append(slices.Clone(whole), odd(50), floors(idOf(9, 9, 9))) {
			want, wantPlace := put(t, whole, x)
			wanted := text(want)
			h := &handed{}
			l, c := h.ledger(whole, []api.Command{x, odd(50), odd(60)}), h.command(x)
			before := inside(l, c)
			m, place := put(t, l, c)
			other, _ := put(t, l, c)
			holds(t, inside(l, c) == before, "Put changes what it is handed:", text(x))
			ahead := slices.Concat(listSpans(l), textSpans(l), listSpans([]api.Command{c}), textSpans([]api.Command{c}))
			first, second := slices.Concat(listSpans(m), textSpans(m)), slices.Concat(listSpans(other), textSpans(other))
			apart(t, first, ahead)
			apart(t, second, ahead)
			apart(t, first, second)
			ownLists(t, m)
			h.change()
			holds(t, text(m) == wanted && place == wantPlace, "what was handed in is kept:", text(x))
		}
	}
}

// Rule 4: the Parts of two commands that share memory when they are handed in don't when they are answered.
func TestPutSharedParts(t *testing.T) {
	numbers := []int{1, 2, 3, 4}
	a, b, c := odd(0), odd(1), odd(2)
	a.Parts, b.Parts, c.Parts = numbers, numbers[1:3], numbers
	for _, x := range []api.Command{a, c} {
		m, _ := put(t, []api.Command{a, b}, x)
		ownLists(t, m)
		m[0].Parts[1] = -9
		holds(t, m[1].Parts[0] == 2 && numbers[1] == 2 && m[len(m)-1].Parts[0] != -9, "Parts share memory:", text(m))
	}
	m, _ := put(t, nil, a)
	l, _ := put(t, m, c)
	k, _ := put(t, m, c)
	m[0].Parts[0], l[1].Parts[0] = -9, -9
	holds(t, l[0].Parts[0] == 1 && k[0].Parts[0] == 1 && k[1].Parts[0] == 1 && a.Parts[0] == 1, "two answers share memory")
}

// Rule 4: two commands put onto one ledger with spare room don't come into each other's way.
func TestPutTwoWays(t *testing.T) {
	room := oddRow(0, 10)[:4]
	first, second := goesOn(t, room, odd(20)), goesOn(t, room, odd(30))
	holds(t, text(first[4]) == text(odd(20)) && text(second[4]) == text(odd(30)) && text(room[:10]) == text(oddRow(0, 10)), "two ways from one ledger")
	first = goesOn(t, first, odd(40))
	second = goesOn(t, second[:4], odd(50))
	holds(t, text(first[4:]) == text([]api.Command{odd(20), odd(40)}) && text(second[4:]) == text([]api.Command{odd(50)}), "two ways from one ledger")
}

// Rules 3 and 4: a Put that is refused changes nothing of what it is handed.
func TestFullMemory(t *testing.T) {
	h := &handed{}
	l, c := h.ledger(floorRow(maxLedger), []api.Command{odd(1)}), h.command(odd(2))
	before := inside(l, c)
	full(t, l, c)
	full(t, l, odd(1))
	holds(t, inside(l, c) == before, "a refused Put changes what it is handed")
}

// Rule 4: what lies behind a ledger's length, or behind that of a command's Parts, is not read.
func TestBehind(t *testing.T) {
	whole := commandsOf(story())
	for n := range len(whole) {
		l := whole[:n]
		for _, c := range whole[n:] {
			if _, err := Place(l, c.Id); err != api.ErrGone {
				t.Fatal("Place of what lies behind:", err)
			}
			isGone(t, l, c.Id)
			holds(t, len(goesOn(t, l, c)) == n+1, "Put of what lies behind")
		}
		holds(t, !Begins(whole, l) && !Begins(whole[:n+1], l), "Begins of what lies behind")
		for _, at := range []int{n, n + 1, len(whole), len(whole) + 1} {
			holds(t, text(At(l, at)) == text(storyAt(n)), "At", at, "of", n, ":", text(At(l, at)))
		}
		holds(t, text(Fold(l)) == text(storyAt(n)), "Fold of", n, ":", text(Fold(l)))
	}
	holds(t, Newest(floorRow(9)[:4], 3, 4) == 4, "Newest reads what lies behind")
	a, b := odd(1), odd(1)
	a.Parts, b.Parts = []int{1, 2, 3}[:2], []int{1, 2, 4}[:2]
	holds(t, Begins([]api.Command{a}, []api.Command{b}), "Begins reads what lies behind Parts")
}

// Rule 4: Fold, At and Outcome change nothing of what they are handed and keep none of it; two catalogs share nothing.
func TestFoldMemory(t *testing.T) {
	for n := range len(story()) + 1 {
		whole := commandsOf(story())
		h := &handed{}
		l := h.ledger(whole, []api.Command{odd(50)})
		before := inside(l)
		c, d, e := At(l, n), At(l, n), Fold(l[:n])
		var outcomes []api.Outcome
		for i := range n {
			o, err := Outcome(l, l[i].Id)
			holds(t, err == nil, "Outcome:", err)
			apart(t, []span{textSpan(o.Etag)}, textSpans(l))
			outcomes = append(outcomes, o)
		}
		holds(t, inside(l) == before, "what is handed in is changed")
		ahead := slices.Concat(listSpans(l), textSpans(l))
		apart(t, slices.Concat(catalogSpans(c), catalogSpans(d), catalogSpans(e)), ahead)
		apart(t, catalogSpans(c), catalogSpans(d))
		apart(t, catalogSpans(e), slices.Concat(catalogSpans(c), catalogSpans(d)))
		h.change()
		for _, got := range []api.Catalog{c, d, e} {
			holds(t, text(got) == text(storyAt(n)), "what was handed in is kept:", text(got))
		}
		for i, o := range outcomes {
			holds(t, o == story()[i].outcome, "what was handed in is kept:", o)
		}
	}
}

// Rule 4: Place, Begins and Newest change nothing of what they are handed.
func TestAskMemory(t *testing.T) {
	for _, whole := range ledgers() {
		h := &handed{}
		a, b := h.ledger(whole, []api.Command{odd(50)}), h.ledger(append(slices.Clone(whole), odd(51)), []api.Command{odd(52)})
		before := inside(a) + inside(b)
		holds(t, Begins(a, b) && !Begins(b, a), "Begins of", len(a), "and", len(b))
		place, err := Place(b, odd(51).Id)
		holds(t, err == nil && place == len(b), "Place:", place, err)
		Place(a, odd(51).Id)
		Newest(a, 10, 11)
		Newest(b, 61, 62)
		holds(t, inside(a)+inside(b) == before, "what is handed in is changed")
	}
}
