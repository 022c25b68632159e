package post

import (
	"bollard/api"
	"bollard/command"
	"bollard/wire"
	"math"
)

// written is the message's bytes with the ledger's in them, not sealed yet.
func written(m api.Message, ledger []byte) ([]byte, error) {
	w := wire.NewWriter()
	w.Num(m.Kind)
	w.Num(m.From)
	w.Num(m.To)
	putId(w, m.Task)
	putBallot(w, m.Ballot)
	putBallot(w, m.Accepted)
	putId(w, m.Blob)
	w.Num(numberOf(m.OK))
	w.Bytes(ledger)
	w.Bytes(m.Frame)
	return w.Done()
}

func putId(w *wire.Writer, id api.Id) {
	w.Num(id.Node)
	w.Num(id.Boot)
	w.Num(id.Seq)
}

func putBallot(w *wire.Writer, b api.Ballot) {
	w.Num(b.Round)
	w.Num(b.Node)
}

func numberOf(ok bool) int {
	if ok {
		return 1
	}
	return 0
}

// reader reads by the plain one's calls and keeps whether one was refused, so that each thing that is read needs no question of its own; what it reads then doesn't count.
type reader struct {
	plain   *wire.Reader
	refused bool
}

// readWhole is the message, in form or not, whose bytes are just these; false, if there is none.
func readWhole(b []byte) (api.Message, bool) {
	r := &reader{plain: wire.NewReader(b)}
	m := r.message()
	return m, !r.refused && r.plain.End() == nil
}

// message sets no limits to the numbers: they are asked by the form.
func (r *reader) message() api.Message {
	var m api.Message
	m.Kind = r.num(math.MaxInt)
	m.From = r.num(math.MaxInt)
	m.To = r.num(math.MaxInt)
	m.Task = r.id()
	m.Ballot = r.ballot()
	m.Accepted = r.ballot()
	m.Blob = r.id()
	m.OK = r.num(1) == 1
	m.Ledger = r.ledger()
	m.Frame = r.bytes()
	return m
}

func (r *reader) id() api.Id {
	node, boot, seq := r.num(math.MaxInt), r.num(math.MaxInt), r.num(math.MaxInt)
	return api.Id{Node: node, Boot: boot, Seq: seq}
}

func (r *reader) ballot() api.Ballot {
	round, node := r.num(math.MaxInt), r.num(math.MaxInt)
	return api.Ballot{Round: round, Node: node}
}

// ledger keeps only that it was refused, not why: a wrong sum of the ledger's own, too, makes the bytes those of no message.
func (r *reader) ledger() []api.Command {
	ledger, err := command.Read(r.bytes())
	r.note(err)
	return ledger
}

func (r *reader) num(most int) int {
	n, err := r.plain.Num(most)
	r.note(err)
	return n
}

func (r *reader) bytes() []byte {
	b, err := r.plain.Bytes(r.plain.Left())
	r.note(err)
	return b
}

func (r *reader) note(err error) { r.refused = r.refused || err != nil }
