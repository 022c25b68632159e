package catalog

import (
	"bollard/api"
	"slices"
	"testing"
	"unsafe"
)

// handed are texts and lists as they are handed in: texts whose bytes change afterwards, as no text of the language does, and lists with spare room in which something stands.
type handed struct{ changes []func() }

func (h *handed) text(s string) string {
	b := append([]byte(s), 'x')
	h.changes = append(h.changes, func() {
		for i := range b {
			b[i] = '#'
		}
	})
	return unsafe.String(&b[0], len(s))
}

// roomed is the list with spare room, filled with what is given; later all of it is overwritten by that.
func roomed[T any](h *handed, list []T, junk T) []T {
	out := append(slices.Clone(list), junk, junk, junk)[:len(list)]
	h.changes = append(h.changes, func() {
		for i := range out[:cap(out)] {
			out[:cap(out)][i] = junk
		}
	})
	return out
}

func (h *handed) change() {
	for _, change := range h.changes {
		change()
	}
}

func junkPiece() api.Piece { return api.Piece{Blob: idOf(-9, -9, -9), Size: -9, Etag: "junk"} }

func (h *handed) piece(p api.Piece) api.Piece {
	p.Etag = h.text(p.Etag)
	return p
}

func (h *handed) pieces(list []api.Piece) []api.Piece {
	list = slices.Clone(list)
	for i := range list {
		list[i] = h.piece(list[i])
	}
	return roomed(h, list, junkPiece())
}

func (h *handed) bucket(b api.Bucket) api.Bucket {
	b.Name = h.text(b.Name)
	b.Objects, b.Uploads = slices.Clone(b.Objects), slices.Clone(b.Uploads)
	for i := range b.Objects {
		o := &b.Objects[i]
		o.Key, o.Etag, o.Pieces = h.text(o.Key), h.text(o.Etag), h.pieces(o.Pieces)
	}
	for i := range b.Uploads {
		u := &b.Uploads[i]
		u.Parts = slices.Clone(u.Parts)
		for k := range u.Parts {
			u.Parts[k].Piece = h.piece(u.Parts[k].Piece)
		}
		u.Key, u.Parts = h.text(u.Key), roomed(h, u.Parts, api.Part{Number: -9, Piece: junkPiece()})
	}
	b.Objects = roomed(h, b.Objects, api.Object{Key: "junk", Pieces: []api.Piece{junkPiece()}})
	b.Uploads = roomed(h, b.Uploads, api.Upload{Key: "junk", Parts: []api.Part{{Number: -9}}})
	return b
}

func (h *handed) catalog(c api.Catalog) api.Catalog {
	c.Buckets = slices.Clone(c.Buckets)
	for i := range c.Buckets {
		c.Buckets[i] = h.bucket(c.Buckets[i])
	}
	c.Buckets = roomed(h, c.Buckets, api.Bucket{Name: "junk", Objects: []api.Object{{Key: "junk"}}})
	c.Floors = roomed(h, c.Floors, idOf(-9, -9, -9))
	return c
}

func (h *handed) command(x api.Command) api.Command {
	x.Bucket, x.Key, x.Piece = h.text(x.Bucket), h.text(x.Key), h.piece(x.Piece)
	x.Parts = roomed(h, x.Parts, -9)
	return x
}

// inside is all that a catalog holds, spare room included.
func inside(c api.Catalog) string {
	out := text(c.Floors[:cap(c.Floors)])
	for _, b := range c.Buckets[:cap(c.Buckets)] {
		out += text(b)
		for _, o := range b.Objects[:cap(b.Objects)] {
			out += text(o) + text(o.Pieces[:cap(o.Pieces)])
		}
		for _, u := range b.Uploads[:cap(b.Uploads)] {
			out += text(u) + text(u.Parts[:cap(u.Parts)])
		}
	}
	return out
}

// span is where a list or a text lies, spare room included.
type span struct{ from, to uintptr }

type spans struct{ lists, texts []span }

func (s *spans) text(all ...string) {
	for _, one := range all {
		from := uintptr(unsafe.Pointer(unsafe.StringData(one)))
		s.texts = append(s.texts, span{from, from + uintptr(len(one))})
	}
}

func addList[T any](s *spans, list []T) {
	var one T
	from := uintptr(unsafe.Pointer(unsafe.SliceData(list)))
	s.lists = append(s.lists, span{from, from + uintptr(cap(list))*unsafe.Sizeof(one)})
}

func (s *spans) piece(p api.Piece) { s.text(p.Etag) }

func (s *spans) object(o api.Object) {
	s.text(o.Key, o.Etag)
	addList(s, o.Pieces)
	for _, p := range o.Pieces {
		s.piece(p)
	}
}

func (s *spans) upload(u api.Upload) {
	s.text(u.Key)
	addList(s, u.Parts)
	for _, p := range u.Parts {
		s.piece(p.Piece)
	}
}

func (s *spans) bucket(b api.Bucket) {
	s.text(b.Name)
	addList(s, b.Objects)
	addList(s, b.Uploads)
	for _, o := range b.Objects {
		s.object(o)
	}
	for _, u := range b.Uploads {
		s.upload(u)
	}
}

func (s *spans) catalog(c api.Catalog) {
	addList(s, c.Buckets)
	addList(s, c.Floors)
	for _, b := range c.Buckets {
		s.bucket(b)
	}
}

func (s *spans) command(x api.Command) {
	s.text(x.Bucket, x.Key, x.Piece.Etag)
	addList(s, x.Parts)
}

func meet(a, b span) bool { return a.from < b.to && b.from < a.to }

// apart asks that no two lists of an answer share memory, and none of the answer with what was there ahead of it.
func apart(t *testing.T, answer, ahead spans) {
	t.Helper()
	for i, a := range answer.lists {
		for _, b := range answer.lists[:i] {
			holds(t, !meet(a, b), "two lists of an answer share memory")
		}
	}
	for _, a := range slices.Concat(answer.lists, answer.texts) {
		for _, b := range slices.Concat(ahead.lists, ahead.texts) {
			holds(t, !meet(a, b), "an answer shares memory with what was there ahead of it")
		}
	}
}

func blank[T any](t *testing.T, list []T) {
	t.Helper()
	var zero T
	for _, one := range list[len(list):cap(list)] {
		holds(t, text(one) == text(zero), "something is handed out behind an answer:", text(one))
	}
}

// clean asks that nothing is handed out behind the lists of an answer.
func clean(t *testing.T, c api.Catalog) {
	t.Helper()
	blank(t, c.Buckets)
	blank(t, c.Floors)
	for _, b := range c.Buckets {
		blank(t, b.Objects)
		blank(t, b.Uploads)
		for _, o := range b.Objects {
			blank(t, o.Pieces)
		}
		for _, u := range b.Uploads {
			blank(t, u.Parts)
		}
	}
}

// commandsOn are commands on full and on several, of each Kind some that come to CodeOK and some that don't, those that put in, that put again and that take out.
func commandsOn() []api.Command {
	up := idOf(0, 0, 5)
	return []api.Command{
		makes("aaa", 1), makes("aab", 1), makes("zzz", 1), drops("aaa"), drops("bbb"), drops("zzz"),
		puts("aaa", "a", idOf(2, 2, 2), "new", 1), puts("aaa", "b", idOf(2, 2, 2), "new", 1), puts("aaa", "~", idOf(2, 2, 2), "new", 1), puts("zzz", "k", idOf(2, 2, 2), "new", 1),
		deletes("aaa", "a"), deletes("aaa", "b"), deletes("aaa", "z"), deletes("zzz", "k"),
		starts("aaa", "k", idOf(0, 0, 1)), starts("aaa", "k", up), starts("aaa", "k", idOf(6, 0, 2)), starts("aaa", "k", idOf(9, 9, 9)), starts("bbb", "k", up), starts("zzz", "k", up),
		parts("aaa", "big", up, 1, idOf(2, 2, 2), "new"), parts("aaa", "big", up, 2, idOf(2, 2, 2), "new"), parts("aaa", "a", idOf(6, 0, 2), 2, idOf(2, 2, 2), "new"), parts("aaa", "big", idOf(9, 9, 9), 1, idOf(2, 2, 2), "new"),
		completes("aaa", "big", up, 1, 2), completes("aaa", "big", up, 1, 2, 4), completes("aaa", "big", up, 1, 3), completes("aaa", "a", idOf(6, 0, 2), 1, 1, 2), completes("zzz", "big", up, 1, 3),
		aborts("aaa", "big", up), aborts("aaa", "a", idOf(6, 0, 2)), aborts("aaa", "a", idOf(9, 9, 9)),
		rules("aaa", 1), rules("zzz", 1), expires(0), expires(5), expires(maxTime), floors(idOf(0, 0, 0)), floors(idOf(1, 1, 1)), floors(idOf(9, 9, 10)), floors(idOf(15, 9, 9)),
	}
}

func catalogs(t *testing.T) []api.Catalog {
	t.Helper()
	return []api.Catalog{{}, full(t), several(t), on(t, full(t), rules("aaa", 1)), on(t, several(t), rules("aaa", 1), rules("ccc", 1))}
}

// Rule 4: Apply changes nothing of what it is handed, reads nothing behind it and keeps none of it; what it answers shares memory with nothing.
func TestApplyMemory(t *testing.T) {
	for _, whole := range catalogs(t) {
		for _, x := range commandsOn() {
			want, wantOutcome := applied(t, whole, x)
			h := &handed{}
			c, y := h.catalog(whole), h.command(x)
			before := inside(c) + text(y) + text(y.Parts[:cap(y.Parts)])
			d, o := Apply(c, y)
			e, _ := Apply(c, y)
			holds(t, inside(c)+text(y)+text(y.Parts[:cap(y.Parts)]) == before, "Apply changes what it is handed:", text(x))
			var first, second, ahead spans
			first.catalog(d)
			first.text(o.Etag)
			second.catalog(e)
			ahead.catalog(c)
			ahead.command(y)
			apart(t, first, ahead)
			apart(t, second, ahead)
			apart(t, second, first)
			clean(t, d)
			h.change()
			holds(t, same(d, want) && o == wantOutcome, "what was handed in is kept:", text(x))
		}
	}
}

// Rule 4: what is answered stays as it is, whatever is made of it; a command whose Parts change is told once.
func TestAnswersStay(t *testing.T) {
	c := full(t)
	numbers := []int{2, 4}
	d := on(t, c, completes("aaa", "big", idOf(0, 0, 5), 1, numbers...))
	want := text(d)
	for _, x := range commandsOn() {
		Apply(d, x)
	}
	numbers[0] = 9
	holds(t, text(d) == want, "what is made of a catalog changes it:", text(d))
	e, _ := Apply(d, makes("zzz", 1))
	e.Buckets[0].Objects[0].Pieces[0].Size = -9
	e.Buckets[0].Uploads[0].Key = "junk"
	e.Floors[0].Seq = -9
	holds(t, text(d) == want, "an answer shares memory with what it was made of:", text(d))
}

// Rule 4: Bucket, Object, Upload and Floor change nothing and keep nothing of what they are handed, and their answers share memory with nothing.
func TestAskMemory(t *testing.T) {
	for _, whole := range catalogs(t)[1:] {
		h := &handed{}
		c := h.catalog(whole)
		before := inside(c)
		name, key := h.text("aaa"), h.text("a")
		id := whole.Buckets[0].Uploads[0].Id
		b, _ := Bucket(c, name)
		o, _ := Object(c, name, key)
		u, there := Upload(c, name, h.text(whole.Buckets[0].Uploads[0].Key), id)
		f, _ := Floor(c, whole.Floors[0].Node)
		again, _ := Bucket(c, name)
		holds(t, there && inside(c) == before, "a question changes what it is handed")
		var first, second, ahead spans
		first.bucket(b)
		second.object(o)
		second.upload(u)
		second.bucket(again)
		ahead.catalog(c)
		ahead.text(name, key)
		apart(t, first, ahead)
		apart(t, second, ahead)
		apart(t, second, first)
		clean(t, api.Catalog{Buckets: []api.Bucket{b, {Objects: []api.Object{o}, Uploads: []api.Upload{u}}}})
		h.change()
		object, _ := Object(whole, "aaa", "a")
		holds(t, text(b) == text(whole.Buckets[0]) && text(again) == text(b) && text(o) == text(object), "what was handed in is kept")
		holds(t, text(u) == text(whole.Buckets[0].Uploads[0]) && f == whole.Floors[0], "what was handed in is kept")
	}
}

// Rule 4: Blobs and Sum change nothing and keep nothing of what they are handed.
func TestPiecesMemory(t *testing.T) {
	for _, whole := range catalogs(t) {
		h := &handed{}
		c := h.catalog(whole)
		before := inside(c)
		all := Blobs(c)
		var answer, ahead spans
		for p := range all {
			answer.piece(p)
		}
		list := h.pieces(plainBlobs(whole))
		spare := text(list[:cap(list)])
		sum := Sum(list)
		ahead.catalog(c)
		apart(t, answer, ahead)
		holds(t, inside(c) == before && text(list[:cap(list)]) == spare, "what is handed in is changed")
		h.change()
		holds(t, slices.Equal(slices.Collect(all), plainBlobs(whole)), "Blobs keeps what is handed in")
		holds(t, sum == plainSum(plainBlobs(whole)), "Sum of", len(list))
	}
}
