package catalog

import (
	"bollard/api"
	"math"
	"math/rand/v2"
	"slices"
	"strings"
	"testing"
)

// drawnNumber is any number, small ones often.
func drawnNumber(r *rand.Rand) int {
	return []int{0, 1, 2, -1, 5, 16, 17, 128, maxTime, math.MaxInt, math.MinInt, int(r.Uint64())}[r.IntN(12)]
}

func drawnText(r *rand.Rand) string {
	return []string{"", "aaa", "bbb", "k", "a", "zzz", "\x00", "\xff\xfe", "é", strings.Repeat("x", 300)}[r.IntN(10)]
}

func drawnId(r *rand.Rand) api.Id { return idOf(drawnNumber(r), drawnNumber(r), drawnNumber(r)) }

func drawnPiece(r *rand.Rand) api.Piece {
	return api.Piece{Blob: drawnId(r), Size: drawnNumber(r), Etag: drawnText(r)}
}

// drawnList is up to three, nil among them.
func drawnList[T any](r *rand.Rand, drawn func(r *rand.Rand) T) []T {
	var out []T
	for range r.IntN(4) {
		out = append(out, drawn(r))
	}
	return out
}

func drawnObject(r *rand.Rand) api.Object {
	return api.Object{Key: drawnText(r), Size: drawnNumber(r), Etag: drawnText(r), Time: drawnNumber(r), Pieces: drawnList(r, drawnPiece)}
}

func drawnPart(r *rand.Rand) api.Part { return api.Part{Number: drawnNumber(r), Piece: drawnPiece(r)} }

func drawnUpload(r *rand.Rand) api.Upload {
	return api.Upload{Id: drawnId(r), Key: drawnText(r), Parts: drawnList(r, drawnPart)}
}

func drawnBucket(r *rand.Rand) api.Bucket {
	return api.Bucket{Name: drawnText(r), Time: drawnNumber(r), Days: drawnNumber(r), Objects: drawnList(r, drawnObject), Uploads: drawnList(r, drawnUpload)}
}

// drawnCatalog is any catalog, mostly one that no commands make.
func drawnCatalog(r *rand.Rand) api.Catalog {
	return api.Catalog{Buckets: drawnList(r, drawnBucket), Floors: drawnList(r, drawnId)}
}

func drawnCommand(r *rand.Rand) api.Command {
	return api.Command{
		Kind: r.IntN(14) - 1, Id: drawnId(r), Bucket: drawnText(r), Key: drawnText(r), Upload: drawnId(r),
		Piece: drawnPiece(r), Part: drawnNumber(r), Parts: drawnList(r, drawnNumber), Time: drawnNumber(r), Days: drawnNumber(r),
	}
}

// Rules 1, 3 and 4: of anything at all every call ends, and changes nothing of what it is handed; what is refused is as it was.
func TestAnything(t *testing.T) {
	r := source()
	for range 20000 {
		c, x := drawnCatalog(r), drawnCommand(r)
		before := text(c) + text(x)
		d, o := Apply(c, x)
		holds(t, o.Code == api.CodeOK || same(c, d) && o.Etag == "", "a refused command changes something:", text(x))
		name, key := drawnText(r), drawnText(r)
		Bucket(d, name)
		Object(d, name, key)
		Upload(d, name, key, drawnId(r))
		Floor(d, drawnNumber(r))
		Sum(slices.Collect(Blobs(d)))
		holds(t, text(c)+text(x) == before, "what is handed in is changed:", text(x))
	}
}

// Rule 1: a Kind that there isn't does nothing, and isn't CodeOK.
func TestNoKind(t *testing.T) {
	for _, c := range []api.Catalog{{}, full(t)} {
		for _, kind := range []int{0, -1, 12, 13, 100, math.MinInt, math.MaxInt} {
			for _, x := range commandsOn() {
				x.Kind = kind
				d, o := Apply(c, x)
				holds(t, same(c, d) && o == api.Outcome{Code: api.CodeBad}, "Kind", kind, ":", o, text(d))
			}
		}
	}
}
