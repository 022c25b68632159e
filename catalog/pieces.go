package catalog

import (
	"bollard/api"
	"bollard/sha"
	"iter"
	"slices"
	"strconv"
)

// Blobs goes over all pieces.
func Blobs(c api.Catalog) iter.Seq[api.Piece] {
	// They are kept as they stand now: the caller may change the catalog ahead of going over them.
	var kept []api.Piece
	for _, b := range c.Buckets {
		for p := range piecesIn(b) {
			kept = append(kept, copyPiece(p))
		}
	}
	return slices.Values(kept)
}

// piecesIn goes over a bucket's pieces: first the objects', then the uploads'.
func piecesIn(b api.Bucket) iter.Seq[api.Piece] {
	return func(yield func(api.Piece) bool) {
		for _, o := range b.Objects {
			for _, p := range o.Pieces {
				if !yield(p) {
					return
				}
			}
		}
		for _, u := range b.Uploads {
			for _, part := range u.Parts {
				if !yield(part.Piece) {
					return
				}
			}
		}
	}
}

// piecesOf is the pieces of the parts with these numbers; false, if one isn't there.
func piecesOf(parts []api.Part, numbers []int) ([]api.Piece, bool) {
	var out []api.Piece
	for _, number := range numbers {
		place, there := find(parts, number, byNumber)
		if !there {
			return nil, false
		}
		out = append(out, parts[place].Piece)
	}
	return out, true
}

func sizeOf(list []api.Piece) int {
	size := 0
	for _, p := range list {
		size += p.Size
	}
	return size
}

// Sum is the etag of pieces.
func Sum(list []api.Piece) string {
	h := sha.New()
	for _, p := range list {
		h.Write([]byte(p.Etag))
	}
	digest := h.Sum()
	return sha.Hex(digest[:]) + "-" + strconv.Itoa(len(list))
}
