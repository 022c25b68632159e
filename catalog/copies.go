package catalog

import (
	"bollard/api"
	"strings"
)

// Texts are copied with the lists: a text may be a piece of a long one of the caller's, which would be kept with it.

// copyAll is the list in memory of its own, each one copied.
func copyAll[T any](list []T, copyOne func(one T) T) []T {
	out := make([]T, 0, len(list))
	for _, one := range list {
		out = append(out, copyOne(one))
	}
	return out
}

func copyCatalog(c api.Catalog) api.Catalog {
	c.Buckets = copyAll(c.Buckets, copyBucket)
	c.Floors = append([]api.Id(nil), c.Floors...)
	return c
}

func copyBucket(b api.Bucket) api.Bucket {
	b.Name = strings.Clone(b.Name)
	b.Objects = copyAll(b.Objects, copyObject)
	b.Uploads = copyAll(b.Uploads, copyUpload)
	return b
}

func copyObject(o api.Object) api.Object {
	o.Key, o.Etag = strings.Clone(o.Key), strings.Clone(o.Etag)
	o.Pieces = copyAll(o.Pieces, copyPiece)
	return o
}

func copyUpload(u api.Upload) api.Upload {
	u.Key = strings.Clone(u.Key)
	u.Parts = copyAll(u.Parts, copyPart)
	return u
}

func copyPart(p api.Part) api.Part {
	p.Piece = copyPiece(p.Piece)
	return p
}

func copyPiece(p api.Piece) api.Piece {
	p.Etag = strings.Clone(p.Etag)
	return p
}

// copyTexts leaves Parts as they are: they are only read.
func copyTexts(x api.Command) api.Command {
	x.Bucket, x.Key = strings.Clone(x.Bucket), strings.Clone(x.Key)
	x.Piece = copyPiece(x.Piece)
	return x
}
