package round

import (
	"bollard/api"
	"strings"
)

// copied is a ledger in memory of its own.
func copied(l []api.Command) []api.Command {
	out := append([]api.Command(nil), l...)
	for i := range out {
		out[i] = copiedCommand(out[i])
	}
	return out
}

// copiedCommand copies the texts too: a text may be a piece of a long one of the caller's, which would be kept with it.
func copiedCommand(c api.Command) api.Command {
	c.Bucket, c.Key = strings.Clone(c.Bucket), strings.Clone(c.Key)
	c.Piece.Etag = strings.Clone(c.Piece.Etag)
	c.Parts = append([]int(nil), c.Parts...)
	return c
}
