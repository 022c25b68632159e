package catalog

import (
	"bollard/api"
	"crypto/sha256"
	"fmt"
	"maps"
	"reflect"
	"slices"
	"strings"
)

// The other implementation: what the chapter keeps in order stands in maps, and is sorted when it is told.
type plainUpload struct {
	key   string
	parts map[int]api.Piece
}

type plainBucket struct {
	time, days int
	objects    map[string]api.Object
	uploads    map[api.Id]plainUpload
}

type plainWorld struct {
	buckets map[string]*plainBucket
	floors  map[int]api.Id
}

func plainOf(c api.Catalog) *plainWorld {
	w := &plainWorld{map[string]*plainBucket{}, map[int]api.Id{}}
	for _, b := range c.Buckets {
		kept := &plainBucket{b.Time, b.Days, map[string]api.Object{}, map[api.Id]plainUpload{}}
		for _, o := range b.Objects {
			kept.objects[o.Key] = o
		}
		for _, u := range b.Uploads {
			parts := map[int]api.Piece{}
			for _, p := range u.Parts {
				parts[p.Number] = p.Piece
			}
			kept.uploads[u.Id] = plainUpload{u.Key, parts}
		}
		w.buckets[b.Name] = kept
	}
	for _, f := range c.Floors {
		w.floors[f.Node] = f
	}
	return w
}

// rank is a text that stands among texts as the id does among ids.
func rank(id api.Id) string { return fmt.Sprintf("%02d %013d %013d", id.Node, id.Boot, id.Seq) }

func (w *plainWorld) catalog() api.Catalog {
	var c api.Catalog
	for _, name := range slices.Sorted(maps.Keys(w.buckets)) {
		kept := w.buckets[name]
		b := api.Bucket{Name: name, Time: kept.time, Days: kept.days}
		for _, key := range slices.Sorted(maps.Keys(kept.objects)) {
			b.Objects = append(b.Objects, kept.objects[key])
		}
		byRank := map[string]api.Id{}
		for id := range kept.uploads {
			byRank[rank(id)] = id
		}
		for _, r := range slices.Sorted(maps.Keys(byRank)) {
			u := api.Upload{Id: byRank[r], Key: kept.uploads[byRank[r]].key}
			parts := kept.uploads[u.Id].parts
			for _, n := range slices.Sorted(maps.Keys(parts)) {
				u.Parts = append(u.Parts, api.Part{Number: n, Piece: parts[n]})
			}
			b.Uploads = append(b.Uploads, u)
		}
		c.Buckets = append(c.Buckets, b)
	}
	for _, node := range slices.Sorted(maps.Keys(w.floors)) {
		c.Floors = append(c.Floors, w.floors[node])
	}
	return c
}

func plainSum(list []api.Piece) string {
	var all strings.Builder
	for _, p := range list {
		all.WriteString(p.Etag)
	}
	return fmt.Sprintf("%x-%d", sha256.Sum256([]byte(all.String())), len(list))
}

// code is the first code of the row of the command's Kind that applies.
func (w *plainWorld) code(x api.Command) int {
	b := w.buckets[x.Bucket]
	if x.Kind == 1 && b != nil {
		return 4
	}
	if x.Kind == 1 && len(w.buckets) == 16 {
		return 7
	}
	if x.Kind != 1 && x.Kind < 10 && b == nil {
		return 1
	}
	if x.Kind == 2 && len(b.objects)+len(b.uploads) != 0 {
		return 5
	}
	if x.Kind == 5 && len(b.uploads) == 16 {
		return 7
	}
	if x.Kind == 6 || x.Kind == 7 || x.Kind == 8 {
		if u, ok := b.uploads[x.Upload]; !ok || u.key != x.Key {
			return 3
		}
	}
	for _, n := range x.Parts {
		if _, ok := b.uploads[x.Upload].parts[n]; !ok {
			return 6
		}
	}
	if x.Kind == 3 || x.Kind == 7 {
		if _, ok := b.objects[x.Key]; !ok && len(b.objects) == 128 {
			return 7
		}
	}
	return 0
}

func (w *plainWorld) apply(x api.Command) api.Outcome {
	if code := w.code(x); code != 0 {
		return api.Outcome{Code: code}
	}
	b, etag := w.buckets[x.Bucket], ""
	switch x.Kind {
	case 1:
		w.buckets[x.Bucket] = &plainBucket{x.Time, 0, map[string]api.Object{}, map[api.Id]plainUpload{}}
	case 2:
		delete(w.buckets, x.Bucket)
	case 3:
		etag = x.Piece.Etag
		b.objects[x.Key] = api.Object{Key: x.Key, Size: x.Piece.Size, Etag: etag, Time: x.Time, Pieces: []api.Piece{x.Piece}}
	case 4:
		delete(b.objects, x.Key)
	case 5:
		b.uploads[x.Id] = plainUpload{x.Key, map[int]api.Piece{}}
	case 6:
		etag = x.Piece.Etag
		b.uploads[x.Upload].parts[x.Part] = x.Piece
	case 7:
		o := api.Object{Key: x.Key, Time: x.Time}
		for _, n := range x.Parts {
			p := b.uploads[x.Upload].parts[n]
			o.Size += p.Size
			o.Pieces = append(o.Pieces, p)
		}
		etag = plainSum(o.Pieces)
		o.Etag = etag
		b.objects[x.Key] = o
		delete(b.uploads, x.Upload)
	case 8:
		delete(b.uploads, x.Upload)
	case 9:
		b.days = x.Days
	case 10:
		w.expire(x.Time)
	case 11:
		if old, ok := w.floors[x.Id.Node]; !ok || rank(old) < rank(x.Id) {
			w.floors[x.Id.Node] = x.Id
		}
	}
	return api.Outcome{Etag: etag}
}

func (w *plainWorld) expire(now int) {
	for _, b := range w.buckets {
		maps.DeleteFunc(b.objects, func(_ string, o api.Object) bool { return b.days > 0 && now-o.Time >= b.days })
	}
}

// plainBlobs is the pieces in the order that is told.
func plainBlobs(c api.Catalog) []api.Piece {
	var out []api.Piece
	for _, b := range c.Buckets {
		for _, o := range b.Objects {
			out = append(out, o.Pieces...)
		}
		for _, u := range b.Uploads {
			for _, p := range u.Parts {
				out = append(out, p.Piece)
			}
		}
	}
	return out
}

// normal has nil in the place of every empty list, so that two that mean the same are the same.
func normal(c api.Catalog) api.Catalog {
	c.Buckets, c.Floors = append([]api.Bucket(nil), c.Buckets...), append([]api.Id(nil), c.Floors...)
	for i := range c.Buckets {
		c.Buckets[i] = normalBucket(c.Buckets[i])
	}
	return c
}

func normalBucket(b api.Bucket) api.Bucket {
	b.Objects, b.Uploads = append([]api.Object(nil), b.Objects...), append([]api.Upload(nil), b.Uploads...)
	for i := range b.Objects {
		b.Objects[i].Pieces = append([]api.Piece(nil), b.Objects[i].Pieces...)
	}
	for i := range b.Uploads {
		b.Uploads[i].Parts = append([]api.Part(nil), b.Uploads[i].Parts...)
	}
	return b
}

func same(c, d api.Catalog) bool { return reflect.DeepEqual(normal(c), normal(d)) }

// text is all that something holds; two that mean the same have the same text.
func text(x any) string { return fmt.Sprintf("%+v", x) }
