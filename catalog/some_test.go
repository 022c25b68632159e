package catalog

import (
	"bollard/api"
	"bollard/command"
	"crypto/sha256"
	"fmt"
	"math/rand/v2"
	"slices"
	"strings"
	"testing"
)

// source gives the same numbers on every run.
func source() *rand.Rand { return rand.New(rand.NewPCG(11, 128)) }

const maxTime = 1099511627776

func idOf(node, boot, seq int) api.Id { return api.Id{Node: node, Boot: boot, Seq: seq} }

// holds tells what was asked, if it doesn't hold.
func holds(t *testing.T, ok bool, what ...any) {
	t.Helper()
	if !ok {
		t.Fatal(what...)
	}
}

// etagOf is the etag of a blob with that text.
func etagOf(body string) string { return fmt.Sprintf("%x", sha256.Sum256([]byte(body))) }

func pieceOf(blob api.Id, body string) api.Piece {
	return api.Piece{Blob: blob, Size: len(body), Etag: etagOf(body)}
}

func makes(bucket string, time int) api.Command {
	return api.Command{Kind: api.CmdMake, Id: idOf(0, 0, 1), Bucket: bucket, Time: time}
}

func drops(bucket string) api.Command {
	return api.Command{Kind: api.CmdDrop, Id: idOf(0, 0, 2), Bucket: bucket}
}

// puts puts an object whose blob has the command's id and that text.
func puts(bucket, key string, blob api.Id, body string, time int) api.Command {
	return api.Command{Kind: api.CmdPut, Id: blob, Bucket: bucket, Key: key, Piece: pieceOf(blob, body), Time: time}
}

func deletes(bucket, key string) api.Command {
	return api.Command{Kind: api.CmdDelete, Id: idOf(0, 0, 4), Bucket: bucket, Key: key}
}

func starts(bucket, key string, upload api.Id) api.Command {
	return api.Command{Kind: api.CmdStart, Id: upload, Bucket: bucket, Key: key}
}

func parts(bucket, key string, upload api.Id, number int, blob api.Id, body string) api.Command {
	return api.Command{Kind: api.CmdPart, Id: blob, Bucket: bucket, Key: key, Upload: upload, Part: number, Piece: pieceOf(blob, body)}
}

func completes(bucket, key string, upload api.Id, time int, numbers ...int) api.Command {
	return api.Command{Kind: api.CmdComplete, Id: idOf(0, 0, 7), Bucket: bucket, Key: key, Upload: upload, Parts: numbers, Time: time}
}

func aborts(bucket, key string, upload api.Id) api.Command {
	return api.Command{Kind: api.CmdAbort, Id: idOf(0, 0, 8), Bucket: bucket, Key: key, Upload: upload}
}

func rules(bucket string, days int) api.Command {
	return api.Command{Kind: api.CmdRule, Id: idOf(0, 0, 9), Bucket: bucket, Days: days}
}

func expires(time int) api.Command {
	return api.Command{Kind: api.CmdExpire, Id: idOf(0, 0, 10), Time: time}
}

func floors(id api.Id) api.Command { return api.Command{Kind: api.CmdFloor, Id: id} }

// applied is what Apply answers of a command in form; it asks all that the promises say of it.
func applied(t *testing.T, c api.Catalog, x api.Command) (api.Catalog, api.Outcome) {
	t.Helper()
	holds(t, command.Check(x) == nil, "not in form:", text(x))
	before := normal(c)
	d, o := Apply(c, x)
	holds(t, same(c, before), "Apply changes what it is handed:", text(x))
	w := plainOf(c)
	want := w.apply(x)
	holds(t, o == want, "outcome of", text(x), ":", o, "in the place of", want)
	if !same(d, w.catalog()) {
		t.Fatal("Apply of", text(x), "to", text(c), "answers", text(d), "in the place of", text(w.catalog()))
	}
	holds(t, o.Code == api.CodeOK || same(d, c), "a refused command changes something:", text(x))
	inOrder(t, d)
	othersStay(t, c, d, x)
	return d, o
}

// comes asks what a command comes to, and answers the catalog.
func comes(t *testing.T, c api.Catalog, x api.Command, code int, etag string) api.Catalog {
	t.Helper()
	d, o := applied(t, c, x)
	holds(t, o == api.Outcome{Code: code, Etag: etag}, "outcome of", text(x), ":", o, "in the place of", code, etag)
	return d
}

// refuses asks that a command comes to that code, and changes nothing.
func refuses(t *testing.T, c api.Catalog, x api.Command, code int) {
	t.Helper()
	holds(t, same(comes(t, c, x, code, ""), c), "a refused command changes something:", text(x))
}

// on is what commands make of a catalog, each of which comes to CodeOK.
func on(t *testing.T, c api.Catalog, all ...api.Command) api.Catalog {
	t.Helper()
	for _, x := range all {
		d, o := applied(t, c, x)
		holds(t, o.Code == api.CodeOK, "outcome of", text(x), ":", o)
		c = d
	}
	return c
}

// made is what commands make of the empty catalog.
func made(t *testing.T, all ...api.Command) api.Catalog {
	t.Helper()
	return on(t, api.Catalog{}, all...)
}

// rises asks that a list rises strictly, and has at most that many.
func rises[T any](t *testing.T, what string, list []T, most int, mark func(one T) string) {
	t.Helper()
	holds(t, len(list) <= most, "too many", what, ":", len(list))
	for i := 1; i < len(list); i++ {
		holds(t, mark(list[i-1]) < mark(list[i]), what, "don't rise:", mark(list[i-1]), "ahead of", mark(list[i]))
	}
}

// inOrder asks P11.2 of a catalog.
func inOrder(t *testing.T, c api.Catalog) {
	t.Helper()
	rises(t, "buckets", c.Buckets, 16, func(b api.Bucket) string { return b.Name })
	rises(t, "floors", c.Floors, 16, func(f api.Id) string { return fmt.Sprintf("%02d", f.Node) })
	for _, b := range c.Buckets {
		rises(t, "objects", b.Objects, 128, func(o api.Object) string { return o.Key })
		rises(t, "uploads", b.Uploads, 16, func(u api.Upload) string { return rank(u.Id) })
		for _, o := range b.Objects {
			holds(t, len(o.Pieces) >= 1 && len(o.Pieces) <= 16, "pieces of an object:", len(o.Pieces))
		}
		for _, u := range b.Uploads {
			rises(t, "parts", u.Parts, 16, func(p api.Part) string { return fmt.Sprintf("%02d", p.Number) })
			for _, p := range u.Parts {
				holds(t, p.Number >= 1 && p.Number <= 16, "a part's number:", p.Number)
			}
		}
	}
}

// others is all of a catalog that the command may not touch (P11.4).
func others(c api.Catalog, x api.Command) api.Catalog {
	c = normal(c)
	if x.Kind == api.CmdFloor {
		c.Floors = slices.DeleteFunc(c.Floors, func(f api.Id) bool { return f.Node == x.Id.Node })
	}
	if x.Kind == api.CmdMake || x.Kind == api.CmdDrop {
		c.Buckets = slices.DeleteFunc(c.Buckets, func(b api.Bucket) bool { return b.Name == x.Bucket })
	}
	upload := x.Upload
	if x.Kind == api.CmdStart {
		upload = x.Id
	}
	for i := range c.Buckets {
		b := &c.Buckets[i]
		if b.Name == x.Bucket && x.Kind == api.CmdRule {
			b.Days = 0
		}
		if b.Name == x.Bucket && slices.Contains([]int{api.CmdPut, api.CmdDelete, api.CmdComplete}, x.Kind) {
			b.Objects = slices.DeleteFunc(b.Objects, func(o api.Object) bool { return o.Key == x.Key })
		}
		if b.Name == x.Bucket && slices.Contains([]int{api.CmdStart, api.CmdPart, api.CmdComplete, api.CmdAbort}, x.Kind) {
			b.Uploads = slices.DeleteFunc(b.Uploads, func(u api.Upload) bool { return u.Id == upload })
		}
		if x.Kind == api.CmdExpire && b.Days != 0 {
			b.Objects = slices.DeleteFunc(b.Objects, func(o api.Object) bool { return o.Time+b.Days <= x.Time })
		}
	}
	return c
}

// othersStay asks P11.4.
func othersStay(t *testing.T, c, d api.Catalog, x api.Command) {
	t.Helper()
	if !same(others(c, x), others(d, x)) {
		t.Fatal(text(x), "touches what isn't its own:", text(c), "becomes", text(d))
	}
}

func names(c api.Catalog) string {
	var out []string
	for _, b := range c.Buckets {
		out = append(out, b.Name)
	}
	return strings.Join(out, " ")
}

func keys(c api.Catalog, bucket string) string {
	var out []string
	for _, b := range c.Buckets {
		for _, o := range b.Objects {
			if b.Name == bucket {
				out = append(out, o.Key)
			}
		}
	}
	return strings.Join(out, " ")
}

// uploads are a bucket's, each with its key and the numbers of its parts.
func uploads(c api.Catalog, bucket string) string {
	var out []string
	for _, b := range c.Buckets {
		for _, u := range b.Uploads {
			if b.Name != bucket {
				continue
			}
			numbers := []int{}
			for _, p := range u.Parts {
				numbers = append(numbers, p.Number)
			}
			out = append(out, fmt.Sprintf("%d-%d-%d %s %v", u.Id.Node, u.Id.Boot, u.Id.Seq, u.Key, numbers))
		}
	}
	return strings.Join(out, ", ")
}
