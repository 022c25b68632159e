package command

import (
	"bollard/api"
	"bollard/wire"
)

// reader reads by the plain one's calls, and gives up by a panic with the error where one is refused, so that each thing that is read needs no question of its own.
type reader struct {
	*wire.Reader
}

// readWhole is what is read of the bytes, if nothing is left behind it; else the error with which the reader gave up.
func readWhole[T any](b []byte, read func(r reader) T) (got T, err error) {
	defer func() {
		if fault, ok := recover().(error); ok {
			err = fault
		}
	}()
	r := reader{wire.NewReader(b)}
	// Not into got: what was read must not be answered beside the error of what stands behind it.
	whole := read(r)
	need(r.End())
	return whole, nil
}

// need gives up, if there is an error.
func need(err error) {
	if err != nil {
		panic(err)
	}
}

// ledger reads a ledger's bytes without their sum.
func (r reader) ledger() []api.Command {
	var out []api.Command
	for range r.num(api.MaxLedger) {
		b, err := r.Bytes(r.Left())
		need(err)
		c, err := Get(b)
		need(err)
		out = append(out, c)
	}
	return out
}

// command reads a command in form. The limits ahead of that question are there so that bytes of any kind are given up early, not read into long lists.
func (r reader) command() api.Command {
	var c api.Command
	c.Kind = r.num(api.CmdFloor)
	c.Id = r.id()
	c.Bucket = r.text(api.MaxName)
	c.Key = r.text(api.MaxKey)
	c.Upload = r.id()
	c.Piece.Blob = r.id()
	c.Piece.Size = r.num(api.MaxBody)
	c.Piece.Etag = r.text(etagSize)
	c.Part = r.num(api.MaxParts)
	for range r.num(api.MaxParts) {
		c.Parts = append(c.Parts, r.num(api.MaxParts))
	}
	c.Time = r.num(api.MaxTime)
	c.Days = r.num(api.MaxTime)
	if !inForm(c) {
		panic(api.ErrBytes)
	}
	return c
}

func (r reader) id() api.Id {
	node, boot, seq := r.num(api.MaxWidth-1), r.num(api.MaxTime), r.num(api.MaxTime)
	return api.Id{Node: node, Boot: boot, Seq: seq}
}

func (r reader) num(most int) int {
	n, err := r.Num(most)
	need(err)
	return n
}

func (r reader) text(most int) string {
	text, err := r.Text(most)
	need(err)
	return text
}
