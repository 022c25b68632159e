package ballot

import (
	"bollard/api"
	"strings"
)

// Acceptor promises and accepts.
type Acceptor struct {
	node     int
	promised api.Ballot
	accepted api.Ballot
	ledger   []api.Command
	claimed  int
}

// New is an acceptor that promised nothing.
func New(node int) (*Acceptor, error) {
	if !isNode(node) {
		return nil, api.ErrNumber
	}
	return &Acceptor{node: node}, nil
}

// Prepare promises.
func (a *Acceptor) Prepare(b api.Ballot) (api.Ballot, []api.Command, error) {
	if err := a.promise(b); err != nil {
		return api.Ballot{}, nil, err
	}
	accepted, ledger := a.Accepted()
	return accepted, ledger, nil
}

// Accept accepts.
func (a *Acceptor) Accept(b api.Ballot, ledger []api.Command) error {
	if err := a.promise(b); err != nil {
		return err
	}
	a.accepted, a.ledger = b, copied(ledger)
	return nil
}

// promise takes the ballot that it promised already as well: a message may come twice, and Accept comes behind Prepare.
func (a *Acceptor) promise(b api.Ballot) error {
	if !isLegal(b) {
		return api.ErrNumber
	}
	if Above(a.promised, b) {
		return api.ErrBallot
	}
	a.promised = b
	return nil
}

// Claim is a ballot of its own.
func (a *Acceptor) Claim(above api.Ballot) (api.Ballot, error) {
	greatest := max(a.promised.Round, a.claimed)
	if above.Round >= 0 && above.Round <= api.MaxTime {
		greatest = max(greatest, above.Round)
	}
	if greatest >= api.MaxTime {
		return api.Ballot{}, api.ErrFull
	}
	a.claimed = greatest + 1
	return api.Ballot{Round: a.claimed, Node: a.node}, nil
}

// Promised is what it promised.
func (a *Acceptor) Promised() api.Ballot { return a.promised }

// Accepted is what it accepted.
func (a *Acceptor) Accepted() (api.Ballot, []api.Command) {
	return a.accepted, copied(a.ledger)
}

// copied is the ledger in memory of its own. Its texts are copied too: a text may be a piece of a long one of the caller's, which would be kept with it.
func copied(ledger []api.Command) []api.Command {
	out := append([]api.Command(nil), ledger...)
	for i := range out {
		c := &out[i]
		c.Bucket, c.Key = strings.Clone(c.Bucket), strings.Clone(c.Key)
		c.Piece.Etag = strings.Clone(c.Piece.Etag)
		c.Parts = append([]int(nil), c.Parts...)
	}
	return out
}
