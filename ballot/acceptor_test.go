package ballot

import (
	"bollard/api"
	"fmt"
	"testing"
)

// both are the two calls that promise a ballot; each gives the error alone.
func both() map[string]func(*testing.T, *Acceptor, api.Ballot) error {
	return map[string]func(*testing.T, *Acceptor, api.Ballot) error{
		"Prepare": func(t *testing.T, a *Acceptor, b api.Ballot) error {
			accepted, ledger, err := a.Prepare(b)
			if err != nil && (accepted != none() || ledger != nil) {
				t.Error("beside an error:", accepted, ledger)
			}
			return err
		},
		"Accept": func(t *testing.T, a *Acceptor, b api.Ballot) error { return a.Accept(b, row(8, 9)) },
	}
}

// next is what an acceptor claims next, which hangs on what it claimed; the acceptor is changed by it.
func next(t *testing.T, a *Acceptor) api.Ballot {
	t.Helper()
	b, err := a.Claim(none())
	good(t, err)
	return b
}

// holding is an acceptor of node 4 that promised {7, 7}, accepted {5, 3} with two commands, and claimed 9.
func holding(t *testing.T) *Acceptor {
	t.Helper()
	a := newAcceptor(t, 4)
	good(t, a.Accept(bal(5, 3), row(1, 2)))
	_, _, err := a.Prepare(bal(7, 7))
	good(t, err)
	if b, err := a.Claim(bal(8, 0)); b != bal(9, 4) || err != nil {
		t.Fatal("Claim:", b, err)
	}
	return a
}

// P9.1, rules 2 and 3: ballots at the edges are refused or not, ErrNumber ahead of ErrBallot, and a refused call changes nothing.
func TestEdges(t *testing.T) {
	for name, call := range both() {
		for _, b := range edges() {
			a, want := holding(t), error(nil)
			switch {
			case b.Round < 1 || b.Round > 1<<40 || b.Node < 0 || b.Node > 15:
				want = api.ErrNumber
			case b.Round < 7 || b.Round == 7 && b.Node < 7:
				want = api.ErrBallot
			}
			before := told(a)
			if err := call(t, a, b); err != want {
				t.Errorf("%s(%v): %v in the place of %v", name, b, err, want)
			}
			if want == nil && a.Promised() != b || want != nil && told(a) != before {
				t.Errorf("%s(%v): %s", name, b, told(a))
			}
			if got := next(t, holding(t)); want != nil && next(t, a) != got {
				t.Errorf("%s(%v) changes what is claimed next", name, b)
			}
		}
	}
}

// P9.1: the same on an acceptor that promised nothing: none isn't legal, and nothing legal is below it.
func TestEdgesNew(t *testing.T) {
	for name, call := range both() {
		for _, b := range edges() {
			a, want := newAcceptor(t, 0), error(nil)
			if b.Round < 1 || b.Round > 1<<40 || b.Node < 0 || b.Node > 15 {
				want = api.ErrNumber
			}
			if err := call(t, a, b); err != want {
				t.Errorf("%s(%v): %v in the place of %v", name, b, err, want)
			}
			if want != nil && (a.Promised() != none() || told(a) != told(newAcceptor(t, 0))) {
				t.Errorf("%s(%v): %s", name, b, told(a))
			}
		}
	}
}

// P9.1, P9.2: a ballot below, at and above what was promised, in Round or in Node, whichever call promised it.
func TestPromise(t *testing.T) {
	for first, promise := range both() {
		for second, call := range both() {
			for _, c := range []struct {
				ballot api.Ballot
				want   error
			}{
				{bal(1, 0), api.ErrBallot}, {bal(6, 15), api.ErrBallot}, {bal(7, 0), api.ErrBallot}, {bal(7, 6), api.ErrBallot},
				{bal(7, 7), nil}, {bal(7, 8), nil}, {bal(7, 15), nil}, {bal(8, 0), nil}, {bal(api.MaxTime, 15), nil},
			} {
				a := newAcceptor(t, 1)
				good(t, promise(t, a, bal(7, 7)))
				if err := call(t, a, c.ballot); err != c.want {
					t.Errorf("%s({7, 7}), %s(%v): %v", first, second, c.ballot, err)
				}
				want := bal(7, 7)
				if c.want == nil {
					want = c.ballot
				}
				if a.Promised() != want {
					t.Errorf("%s({7, 7}), %s(%v): promised %v", first, second, c.ballot, a.Promised())
				}
			}
		}
	}
}

// P9.1: what Prepare answers is what was accepted ahead of it, not what is prepared; preparing accepts nothing.
func TestPrepare(t *testing.T) {
	a := newAcceptor(t, 2)
	accepted, ledger := none(), row()
	for round := 1; round <= 30; round++ {
		for node := range 3 {
			b := bal(round, node)
			for range 2 {
				got, l, err := a.Prepare(b)
				if got != accepted || text(l) != text(ledger) || err != nil || a.Promised() != b {
					t.Fatal("Prepare:", b, got, l, err, a.Promised())
				}
			}
			if got, l := a.Accepted(); got != accepted || text(l) != text(ledger) {
				t.Fatal("accepted behind a Prepare:", got, l)
			}
			if round%3 == node {
				accepted, ledger = b, append(ledger, command(round))
				good(t, a.Accept(b, ledger))
			}
		}
	}
}

// P9.1: Accept without a Prepare ahead, with longer and shorter ledgers than before, with the same ballot and a greater one: the newest one holds.
func TestAccept(t *testing.T) {
	ledgers := [][]api.Command{row(), nil, {}, row(1), row(1, 2), row(1, 2, 3), row(4, 5), row(6), {{}}, {{}, {}}}
	a := newAcceptor(t, 2)
	round := 1
	for _, first := range ledgers {
		for _, second := range ledgers {
			for _, more := range []api.Ballot{bal(0, 3), bal(0, 4), bal(1, 0)} {
				b := bal(round+more.Round, more.Node)
				good(t, a.Accept(bal(round, 3), first), a.Accept(b, second))
				got, l := a.Accepted()
				if got != b || text(l) != text(second) || a.Promised() != b {
					t.Fatal("accepted:", b, got, l)
				}
				got, l, err := a.Prepare(b)
				if got != b || text(l) != text(second) || err != nil {
					t.Fatal("Prepare of what is accepted:", b, got, l, err)
				}
				round += 2
			}
		}
	}
}

// P9.1: a Prepare behind an Accept shuts out that Accept's ballot, and an Accept behind a Prepare shuts out that Prepare's.
func TestBehind(t *testing.T) {
	a := newAcceptor(t, 0)
	good(t, a.Accept(bal(3, 1), row(1)))
	_, _, err := a.Prepare(bal(3, 2))
	good(t, err)
	if err := a.Accept(bal(3, 1), row(1, 2)); err != api.ErrBallot {
		t.Error("an Accept that comes late:", err)
	}
	if b, l := a.Accepted(); b != bal(3, 1) || text(l) != text(row(1)) {
		t.Error("a late Accept changes what is accepted:", b, l)
	}
	good(t, a.Accept(bal(4, 0), row(1, 3)))
	if b, l, err := a.Prepare(bal(3, 2)); b != none() || l != nil || err != api.ErrBallot {
		t.Error("a Prepare that comes late:", b, l, err)
	}
	if a.Promised() != bal(4, 0) {
		t.Error("promised:", a.Promised())
	}
}

// P9.1: an acceptor takes ledgers of any length, of any commands: what a command's form is and how long a ledger may be, other layers ask.
func TestAnyLedger(t *testing.T) {
	long := make([]api.Command, api.MaxLedger+1)
	for i := range long {
		long[i] = command(i)
	}
	for i, ledger := range [][]api.Command{long, long[:api.MaxLedger], {{Kind: -1, Parts: []int{-5, 3, 3}}}, {command(1), command(1)}, {{Bucket: "\xff\x00", Days: -1}}} {
		a := newAcceptor(t, 0)
		good(t, a.Accept(bal(1, 0), ledger))
		if b, l := a.Accepted(); b != bal(1, 0) || text(l) != text(ledger) {
			t.Error("ledger", i, "is accepted as another one")
		}
		if b, l, err := a.Prepare(bal(1, 0)); b != bal(1, 0) || text(l) != text(ledger) || err != nil {
			t.Error("ledger", i, "is told as another one", err)
		}
	}
}

// P9.1: asking what was promised and accepted changes nothing, however often.
func TestAsking(t *testing.T) {
	a := holding(t)
	for range 5 {
		accepted, ledger := a.Accepted()
		if got := fmt.Sprint(a.Promised(), accepted, text(ledger)); got != fmt.Sprint(bal(7, 7), bal(5, 3), text(row(1, 2))) {
			t.Fatal(got)
		}
	}
	if got := next(t, a); got != bal(10, 4) {
		t.Error("claimed:", got)
	}
}
