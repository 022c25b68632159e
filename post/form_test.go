package post

import (
	"bollard/api"
	"bytes"
	"math"
	"slices"
	"testing"
)

// change sets a field to something: to what is good there, or not, and zero, or not.
type change struct {
	field      string
	good, zero bool
	set        func(m *api.Message)
}

func nodeChanges() []change {
	var out []change
	for _, one := range edges(0, 15) {
		out = append(out,
			change{"From", one.good, one.number == 0, func(m *api.Message) { m.From = one.number }},
			change{"To", one.good, one.number == 0, func(m *api.Message) { m.To = one.number }})
	}
	return out
}

func idChanges() []change {
	var out []change
	for _, one := range edgeIds() {
		zero := one.id == api.Id{}
		out = append(out,
			change{"Task", one.good, zero, func(m *api.Message) { m.Task = one.id }},
			change{"Blob", one.good, zero, func(m *api.Message) { m.Blob = one.id }})
	}
	return out
}

func ballotChanges(all []edgeBallot) []change {
	var out []change
	for _, one := range all {
		zero := one.ballot == api.Ballot{}
		out = append(out,
			change{"Ballot", one.legal, zero, func(m *api.Message) { m.Ballot = one.ballot }},
			change{"Accepted", one.legal, zero, func(m *api.Message) { m.Accepted = one.ballot }})
	}
	return out
}

// fewBallots are those of which one number at least is 0 or 1.
func fewBallots() []edgeBallot {
	return slices.DeleteFunc(edgeBallots(), func(one edgeBallot) bool {
		return uint64(one.ballot.Round) > 1 && uint64(one.ballot.Node) > 1
	})
}

// badCommands are commands that aren't in form.
func badCommands() []api.Command {
	return []api.Command{
		{}, {Kind: 12}, {Kind: -1}, {Kind: api.CmdMake}, {Kind: api.CmdMake, Bucket: "aaa", Key: "k"}, {Kind: api.CmdFloor, Id: idOf(16, 0, 0)},
		{Kind: api.CmdFloor, Time: 1}, {Kind: api.CmdExpire, Time: maxTime + 1}, {Kind: api.CmdFloor, Id: idOf(0, 0, -1)},
	}
}

func ledgerChanges() []change {
	var out []change
	for _, n := range []int{0, 1, 2, 11, 40} {
		out = append(out, change{"Ledger", true, n == 0, func(m *api.Message) { m.Ledger = rowOf(n) }})
	}
	out = append(out, change{"Ledger", true, true, func(m *api.Message) { m.Ledger = []api.Command{} }})
	for _, c := range badCommands() {
		out = append(out,
			change{"Ledger", false, false, func(m *api.Message) { m.Ledger = []api.Command{c} }},
			change{"Ledger", false, false, func(m *api.Message) { m.Ledger = append(rowOf(3), c) }})
	}
	return out
}

func frameChanges() []change {
	var out []change
	for _, n := range []int{0, 1, 2, 127, 128, 300, maxFrame - 1, maxFrame, maxFrame + 1, 2 * maxFrame} {
		for _, fill := range []byte{0, 200} {
			out = append(out, change{"Frame", n <= maxFrame, n == 0, func(m *api.Message) { m.Frame = bytes.Repeat([]byte{fill}, n) }})
		}
	}
	return append(out, change{"Frame", true, true, func(m *api.Message) { m.Frame = nil }})
}

func okChanges() []change {
	return []change{
		{"OK", true, true, func(m *api.Message) { m.OK = false }},
		{"OK", true, false, func(m *api.Message) { m.OK = true }},
	}
}

func allChanges() []change {
	return slices.Concat(nodeChanges(), idChanges(), ballotChanges(fewBallots()), ledgerChanges(), frameChanges(), okChanges())
}

// wanted tells whether a message in form is in form still, one field of it being changed.
func wanted(m api.Message, one change) bool {
	has, _ := plainFields(m.Kind)
	switch {
	case slices.Contains([]string{"From", "To", "Task"}, one.field):
		return one.good
	case !slices.Contains(has, one.field):
		return one.zero
	case m.Kind == 2 && one.field == "Accepted" && one.zero:
		return len(m.Ledger) == 0
	case m.Kind == 2 && one.field == "Ledger" && m.Accepted.Round == 0:
		return one.zero
	case m.Kind == 9 && one.field == "OK" && one.zero:
		return len(m.Frame) == 0
	case m.Kind == 9 && one.field == "Frame" && !m.OK:
		return one.zero
	}
	return one.good
}

// P15.1: the examples of the chapter, and a message that is nothing.
func TestExamples(t *testing.T) {
	legal := ballotOf(1, 0)
	judged(t, api.Message{}, false)
	judged(t, api.Message{Kind: api.MsgPrepare}, false)
	judged(t, api.Message{Kind: api.MsgPrepare, Ballot: legal, Frame: []byte{1}}, false)
	judged(t, api.Message{Kind: api.MsgPrepare, Ballot: legal}, true)
	judged(t, api.Message{Kind: api.MsgFetched, Frame: []byte{1}}, false)
	judged(t, api.Message{Kind: api.MsgFetched}, true)
	judged(t, api.Message{Kind: api.MsgFetched, OK: true}, true)
	judged(t, api.Message{Kind: api.MsgFetched, OK: true, Frame: []byte{1}}, true)
	holds(t, MaxFrame == maxFrame, "MaxFrame:", MaxFrame)
}

// P15.1: each kind, with each field that it has at its edges, and each other one zero and not, one at a time.
func TestFields(t *testing.T) {
	for _, sample := range append(samples(), middles()...) {
		judged(t, sample, true)
		for _, one := range allChanges() {
			m := sample
			one.set(&m)
			want := wanted(sample, one)
			// Of ids there are many, and long messages cost time.
			if one.field == "Task" || one.field == "Blob" || len(sample.Ledger) > 2 || len(sample.Frame) > 5 {
				holds(t, Check(m) == nil == want && plainForm(m) == want, "Check of", text(m))
				continue
			}
			judged(t, m, want)
		}
	}
}

// P15.1: ids that are no good ones, in the place of each that a kind has.
func TestIds(t *testing.T) {
	for _, sample := range middles() {
		for _, one := range idChanges() {
			m := sample
			one.set(&m)
			judged(t, m, wanted(sample, one))
		}
	}
}

// P15.1: ballots that are none, legal, and neither, in the place of each that a kind has.
func TestBallots(t *testing.T) {
	for _, sample := range middles() {
		for _, one := range ballotChanges(edgeBallots()) {
			m := sample
			one.set(&m)
			judged(t, m, wanted(sample, one))
		}
	}
}

// P15.1: an Accepted in every relation to the Ballot: the chapter asks of each by itself whether it is legal.
func TestBothBallots(t *testing.T) {
	all := []api.Ballot{ballotOf(1, 0), ballotOf(1, 15), ballotOf(2, 3), ballotOf(2, 4), ballotOf(maxTime, 0), ballotOf(maxTime, 15)}
	for _, kind := range []int{api.MsgPromise, api.MsgRefused} {
		for _, b := range all {
			for _, accepted := range all {
				m := only(kind, fulls()[1])
				m.Ballot, m.Accepted = b, accepted
				judged(t, m, true)
			}
		}
	}
}

// P15.1: kinds that there aren't, with the fields of each that there is, with all, and with none.
func TestKinds(t *testing.T) {
	var all []int
	for kind := -300; kind <= 300; kind++ {
		if kind < 1 || kind > kinds {
			all = append(all, kind)
		}
	}
	all = append(all, 1<<32, 1<<32+1, 1<<32+9, 1<<40+1, 1<<62, math.MaxInt-1, math.MaxInt, math.MinInt, math.MinInt+1, math.MinInt+9)
	for _, kind := range all {
		judged(t, api.Message{Kind: kind}, false)
		for _, m := range append(middles(), fulls()[:2]...) {
			m.Kind = kind
			judged(t, m, false)
		}
	}
	for kind := 1; kind <= kinds; kind++ {
		for _, full := range fulls()[1:] {
			full.Kind = kind
			judged(t, full, false)
		}
	}
}

// P15.1: the kinds are those of the table, by their names.
func TestKindNames(t *testing.T) {
	legal, blob := ballotOf(3, 4), idOf(5, 6, 7)
	row := commands()[:1]
	for _, m := range []api.Message{
		{Kind: api.MsgPrepare, Ballot: legal},
		{Kind: api.MsgPromise, Ballot: legal},
		{Kind: api.MsgPromise, Ballot: legal, Accepted: legal},
		{Kind: api.MsgPromise, Ballot: legal, Accepted: legal, Ledger: row},
		{Kind: api.MsgAccept, Ballot: legal},
		{Kind: api.MsgAccept, Ballot: legal, Ledger: row},
		{Kind: api.MsgAccepted, Ballot: legal},
		{Kind: api.MsgRefused, Ballot: legal, Accepted: legal},
		{Kind: api.MsgStore, Blob: blob},
		{Kind: api.MsgStore, Blob: blob, Frame: []byte("f")},
		{Kind: api.MsgStored, Blob: blob},
		{Kind: api.MsgStored, Blob: blob, OK: true},
		{Kind: api.MsgFetch, Blob: blob},
		{Kind: api.MsgFetched, Blob: blob},
		{Kind: api.MsgFetched, Blob: blob, OK: true},
		{Kind: api.MsgFetched, Blob: blob, OK: true, Frame: []byte("f")},
	} {
		judged(t, m, true)
	}
	for _, m := range []api.Message{
		{Kind: api.MsgPrepare, Ballot: legal, Accepted: legal},
		{Kind: api.MsgPromise, Ballot: legal, Ledger: row},
		{Kind: api.MsgPromise, Accepted: legal, Ledger: row},
		{Kind: api.MsgAccept, Ballot: legal, Accepted: legal, Ledger: row},
		{Kind: api.MsgAccept, Ledger: row},
		{Kind: api.MsgAccepted, Ballot: legal, Ledger: row},
		{Kind: api.MsgRefused, Ballot: legal},
		{Kind: api.MsgRefused, Accepted: legal},
		{Kind: api.MsgRefused, Ballot: legal, Accepted: legal, Ledger: row},
		{Kind: api.MsgStore, Blob: blob, OK: true, Frame: []byte("f")},
		{Kind: api.MsgStored, Blob: blob, OK: true, Frame: []byte("f")},
		{Kind: api.MsgFetch, Blob: blob, OK: true},
		{Kind: api.MsgFetch, Blob: blob, Frame: []byte("f")},
		{Kind: api.MsgFetched, Blob: blob, Frame: []byte("f")},
		{Kind: api.MsgFetched, Blob: blob, OK: true, Ballot: legal},
	} {
		judged(t, m, false)
	}
}

// P15.1: every node to every node, itself included, and one beyond each end.
func TestNodes(t *testing.T) {
	m := only(api.MsgPrepare, fulls()[1])
	for from := -1; from <= 16; from++ {
		for to := -1; to <= 16; to++ {
			m.From, m.To = from, to
			judged(t, m, from >= 0 && from < 16 && to >= 0 && to < 16)
		}
	}
}

// P15.1: an Accepted that is none, with an empty ledger and with one that isn't, and Accepteds that are neither none nor legal.
func TestAcceptedNone(t *testing.T) {
	for _, ledger := range [][]api.Command{nil, {}, rowOf(1), rowOf(2), rowOf(30), badCommands()[:1]} {
		m := only(api.MsgPromise, fulls()[1])
		m.Accepted, m.Ledger = api.Ballot{}, ledger
		judged(t, m, len(ledger) == 0)
		for _, b := range []api.Ballot{ballotOf(0, 1), ballotOf(0, 15), ballotOf(0, -1), ballotOf(-1, 0), ballotOf(1, -1), ballotOf(1, 16), ballotOf(maxTime+1, 0)} {
			m.Accepted = b
			judged(t, m, false)
		}
	}
}

// P15.1: frames of no bytes, some, as many as there may be, and more, of each kind with each OK.
func TestFrames(t *testing.T) {
	for _, n := range []int{0, 1, 2, 5, 127, 128, 129, 4094, 4095, 4096, 4097, 4098, 8192, 16384, 1 << 16} {
		for kind := 1; kind <= kinds; kind++ {
			for _, ok := range []bool{false, true} {
				m := only(kind, fulls()[1])
				m.OK, m.Frame = ok, someBytes(source(), n)
				isGood := map[int]bool{
					api.MsgStore:   !ok && n <= 4096,
					api.MsgStored:  n == 0,
					api.MsgFetched: n == 0 || ok && n <= 4096,
				}
				want, listed := isGood[kind]
				judged(t, m, listed && want || !listed && !ok && n == 0)
			}
		}
	}
}

// P15.1: two fields at their edges at once, so that none is asked in another's place.
func TestTwoFields(t *testing.T) {
	few := slices.Concat(nodeChanges(), ledgerChanges(), frameChanges(), okChanges(), ballotChanges([]edgeBallot{
		{api.Ballot{}, false}, {ballotOf(1, 0), true}, {ballotOf(maxTime, 15), true}, {ballotOf(0, 1), false}, {ballotOf(1, 16), false}, {ballotOf(maxTime+1, 1), false},
	}))
	for _, id := range []edgeId{{idOf(0, 0, 0), true}, {idOf(15, maxTime, 0), true}, {idOf(16, 0, 0), false}, {idOf(0, -1, 0), false}, {idOf(0, 0, maxTime+1), false}} {
		few = append(few, change{"Task", id.good, false, func(m *api.Message) { m.Task = id.id }}, change{"Blob", id.good, false, func(m *api.Message) { m.Blob = id.id }})
	}
	taken := 0
	for _, sample := range middles() {
		for _, first := range few {
			once := sample
			first.set(&once)
			for _, second := range few {
				m := once
				second.set(&m)
				err := Check(m)
				if want := plainForm(m); err == nil != want {
					t.Fatal("Check of", text(m), err)
				}
				if err == nil {
					taken++
				}
			}
		}
	}
	holds(t, taken > 10000, "too few in form among them:", taken)
}
