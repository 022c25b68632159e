package disk

import (
	"fmt"
	"testing"
)

// letters are the calls of which rows are made: on two names, with a Rename onto itself, onto one that is there and onto one that isn't.
func letters() []step {
	return []step{
		{call: "Write", name: "a"}, {call: "Write", name: "b"},
		{call: "Sync", name: "a"}, {call: "Sync", name: "b"},
		{call: "Rename", name: "a", to: "b"}, {call: "Rename", name: "b", to: "a"}, {call: "Rename", name: "a", to: "a"},
		{call: "Delete", name: "a"}, {call: "Delete", name: "b"},
		{call: "Crash"},
	}
}

// tryRow does the calls of that row to a new pair, each Write with bytes of its own, and asks that both end alike, also behind a crash.
func tryRow(t *testing.T, row []step) {
	t.Helper()
	p := newPair()
	for i, s := range row {
		if s.call == "Write" {
			s.bytes = []byte{byte(i + 1), byte(len(row))}
		}
		p.do(t, s)
	}
	p.same(t, row)
	p.do(t, step{call: "Crash"})
	p.same(t, fmt.Sprint(row, " and a crash"))
}

// everyRow tries each row that begins so and has at most left steps more.
func everyRow(t *testing.T, calls, row []step, left int) {
	t.Helper()
	tryRow(t, row)
	if left == 0 {
		return
	}
	for _, s := range calls {
		everyRow(t, calls, append(row[:len(row):len(row)], s), left-1)
	}
}

// P7.1, P7.2: Write, Sync, Rename and Delete in every order, with crashes between them, against another implementation.
func TestEveryOrder(t *testing.T) {
	everyRow(t, letters(), nil, 5)
}

// P7.1, P7.2: the same with no crash, and with one between any two of the calls, whatever the row.
func TestCrashBetween(t *testing.T) {
	calls := letters()[:9]
	row := make([]step, 4)
	for number := range 9 * 9 * 9 * 9 {
		n := number
		for i := range row {
			row[i] = calls[n%9]
			n /= 9
		}
		for at := 1; at < len(row); at++ {
			crashed := append(append([]step{{call: "Write", name: "b"}, {call: "Sync", name: "b"}}, row[:at]...), step{call: "Crash"})
			tryRow(t, append(crashed, row[at:]...))
		}
	}
}

// P7.1: every call in every order, on a drive that is full for a time, is lost or has its bits turned.
func TestEveryHarm(t *testing.T) {
	calls := []step{
		{call: "Write", name: "a"}, {call: "Sync", name: "a"}, {call: "Rename", name: "a", to: "b"}, {call: "Delete", name: "b"}, {call: "Read", name: "b"},
		{call: "Crash"}, {call: "Flip", n: -3}, {call: "Flip", n: 16}, {call: "Lose"}, {call: "Fill", n: 1}, {call: "Fill"},
	}
	everyRow(t, calls, nil, 5)
}

// P7.1, P7.2: long rows of all calls on several drives side by side, with many names and such as no file may have.
func TestManyCalls(t *testing.T) {
	r := source()
	names := []string{"a", "b", "B", "aa", "a!", "b-10", "b-2", "~", "!", "", "a b", "\x7f"}
	calls := []string{"Write", "Write", "Write", "Sync", "Sync", "Rename", "Rename", "Delete", "Read", "Flip"}
	rare := []string{"Crash", "Crash", "Crash", "Lose", "Fill", "Fill"}
	for range 300 {
		drives := []pair{newPair(), newPair(), newPair()}
		for i := range 300 {
			s := step{call: calls[r.IntN(len(calls))], name: names[r.IntN(len(names))], to: names[r.IntN(len(names))], bytes: someBytes(r, r.IntN(5)), n: r.IntN(1000) - 500}
			if r.IntN(20) == 0 {
				s.call, s.n = rare[r.IntN(len(rare))], r.IntN(4)/3
			}
			drives[r.IntN(len(drives))].do(t, s)
			for _, p := range drives {
				p.same(t, fmt.Sprint(i, " calls, the last ", s))
			}
		}
	}
}

// P7.1: long rows of calls on drives that have MaxFiles files most of the time.
func TestManyFiles(t *testing.T) {
	r := source()
	calls := []string{"Write", "Write", "Write", "Write", "Write", "Write", "Sync", "Rename", "Delete", "Read"}
	p := newPair()
	most := 0
	for i := range 40000 {
		s := step{call: calls[r.IntN(len(calls))], name: fmt.Sprint(r.IntN(1000)), to: fmt.Sprint(r.IntN(1000)), bytes: []byte{byte(i)}}
		if r.IntN(8000) == 0 {
			s.call = "Crash"
		}
		p.do(t, s)
		if len(p.plain.row) == 512 {
			most++
		}
		if i%500 == 0 {
			p.same(t, fmt.Sprint(i, " calls"))
		}
	}
	p.same(t, "all calls")
	if most < 1000 {
		t.Error("the drive has too seldom as many files as it may:", most)
	}
}
