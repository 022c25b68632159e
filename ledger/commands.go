package ledger

import (
	"bollard/api"
	"slices"
	"strings"
)

// same tells whether two commands mean the same: Parts may be nil in one and empty in the other.
func same(a, b api.Command) bool {
	return a.Kind == b.Kind && a.Id == b.Id && a.Bucket == b.Bucket && a.Key == b.Key && a.Upload == b.Upload &&
		a.Piece == b.Piece && a.Part == b.Part && slices.Equal(a.Parts, b.Parts) && a.Time == b.Time && a.Days == b.Days
}

// copied is a ledger, with more commands behind it, in memory of its own.
func copied(l []api.Command, more ...api.Command) []api.Command {
	out := make([]api.Command, 0, len(l)+len(more))
	for _, c := range l {
		out = append(out, copiedCommand(c))
	}
	for _, c := range more {
		out = append(out, copiedCommand(c))
	}
	return out
}

// copiedCommand copies the texts too: a text may be a piece of a long one of the caller's, which would be kept with it.
func copiedCommand(c api.Command) api.Command {
	c.Bucket, c.Key = strings.Clone(c.Bucket), strings.Clone(c.Key)
	c.Piece.Etag = strings.Clone(c.Piece.Etag)
	c.Parts = append([]int(nil), c.Parts...)
	return c
}
