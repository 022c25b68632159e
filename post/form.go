package post

import (
	"bollard/api"
	"bollard/command"
)

// fields says which fields a message has beside Kind, From, To and Task; all others are zero.
type fields struct {
	ballot, accepted, ledger, blob, ok, frame bool
}

// fieldsOf is the fields of a message of its kind; false, if there is no such kind.
func fieldsOf(m api.Message) (fields, bool) {
	switch m.Kind {
	case api.MsgPrepare, api.MsgAccepted:
		return fields{ballot: true}, true
	case api.MsgPromise:
		// Who has accepted no ballot has no ledger either.
		some := m.Accepted != api.Ballot{}
		return fields{ballot: true, accepted: some, ledger: some}, true
	case api.MsgAccept:
		return fields{ballot: true, ledger: true}, true
	case api.MsgRefused:
		return fields{ballot: true, accepted: true}, true
	case api.MsgStore:
		return fields{blob: true, frame: true}, true
	case api.MsgStored:
		return fields{blob: true, ok: true}, true
	case api.MsgFetch:
		return fields{blob: true}, true
	case api.MsgFetched:
		return fields{blob: true, ok: true, frame: m.OK}, true
	}
	return fields{}, false
}

func inForm(m api.Message) bool {
	has, ok := fieldsOf(m)
	return ok && isNode(m.From) && isNode(m.To) && command.GoodId(m.Task) &&
		goodOrZero(has.ballot, isLegal(m.Ballot), m.Ballot == api.Ballot{}) &&
		goodOrZero(has.accepted, isLegal(m.Accepted), m.Accepted == api.Ballot{}) &&
		goodOrZero(has.blob, command.GoodId(m.Blob), m.Blob == api.Id{}) &&
		goodOrZero(has.ok, true, !m.OK) &&
		goodOrZero(has.frame, len(m.Frame) <= MaxFrame, len(m.Frame) == 0) &&
		goodOrZero(has.ledger, goodLedger(m.Ledger), len(m.Ledger) == 0)
}

// goodOrZero tells whether a field is as it must be: good, if the message has it, else zero.
func goodOrZero(has, good, zero bool) bool {
	if has {
		return good
	}
	return zero
}

// goodLedger asks the length first, so that no long row is gone through in vain.
func goodLedger(ledger []api.Command) bool {
	if len(ledger) > api.MaxLedger {
		return false
	}
	for _, c := range ledger {
		if command.Check(c) != nil {
			return false
		}
	}
	return true
}

func isNode(n int) bool { return n >= 0 && n < api.MaxWidth }

// isLegal asks what layer 9 calls a legal ballot.
func isLegal(b api.Ballot) bool {
	return b.Round >= 1 && b.Round <= api.MaxTime && isNode(b.Node)
}
