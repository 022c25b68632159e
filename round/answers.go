package round

import (
	"bollard/api"
	"bollard/ballot"
	"bollard/ledger"
)

// takes tells whether a node's answer counts in this stage; if so, that node has answered.
func (r *Round) takes(stage, from int, b api.Ballot) bool {
	switch {
	case r.stage != stage || b != r.ballot:
		return false
	case from < 0 || from >= r.nodes || r.answered[from]:
		return false
	}
	r.answered[from] = true
	return true
}

// decide goes on to the next stage as soon as more than half have answered in this one.
func (r *Round) decide() {
	switch {
	case !r.isHalf():
		return
	case r.stage == StageTell:
		r.stage = StageDone
	case r.reads || r.put():
		r.stage, r.answered = StageTell, [api.MaxWidth]bool{}
	default:
		r.stage = StageFull
	}
}

// isHalf tells whether more than half have answered in this stage.
func (r *Round) isHalf() bool {
	answers := r.nodes
	for range r.Missing() {
		answers--
	}
	return answers >= ballot.Half(r.nodes)
}

// put puts its command behind the ledger; false, if there is no room.
func (r *Round) put() bool {
	l, _, err := ledger.Put(r.ledger, r.command)
	r.ledger = l
	return err == nil
}

// tells tells whether there is a ledger that it lets be accepted.
func (r *Round) tells() bool { return r.stage == StageTell || r.stage == StageDone }

// isLegal asks what layer 9 calls a legal ballot.
func isLegal(b api.Ballot) bool {
	return b.Round >= 1 && b.Round <= api.MaxTime && b.Node >= 0 && b.Node < api.MaxWidth
}
