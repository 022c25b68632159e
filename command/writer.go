package command

import (
	"bollard/api"
	"bollard/wire"
)

// writer puts commands by the plain one's calls.
type writer struct {
	*wire.Writer
}

func newWriter() writer { return writer{wire.NewWriter()} }

func (w writer) command(c api.Command) {
	w.Num(c.Kind)
	w.id(c.Id)
	w.Text(c.Bucket)
	w.Text(c.Key)
	w.id(c.Upload)
	w.id(c.Piece.Blob)
	w.Num(c.Piece.Size)
	w.Text(c.Piece.Etag)
	w.Num(c.Part)
	w.Num(len(c.Parts))
	for _, n := range c.Parts {
		w.Num(n)
	}
	w.Num(c.Time)
	w.Num(c.Days)
}

func (w writer) id(id api.Id) {
	w.Num(id.Node)
	w.Num(id.Boot)
	w.Num(id.Seq)
}
