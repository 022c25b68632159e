package catalog

import (
	"bollard/api"
	"strings"
	"testing"
)

// asks asks Bucket, Object, Upload and Floor of all that is in a catalog.
func asks(t *testing.T, c api.Catalog) {
	t.Helper()
	for _, b := range c.Buckets {
		got, there := Bucket(c, b.Name)
		holds(t, there && text(got) == text(b), "Bucket", b.Name, ":", text(got), there)
		for _, o := range b.Objects {
			got, there := Object(c, b.Name, o.Key)
			holds(t, there && text(got) == text(o), "Object", b.Name, o.Key, ":", text(got), there)
		}
		for _, u := range b.Uploads {
			got, there := Upload(c, b.Name, u.Key, u.Id)
			holds(t, there && text(got) == text(u), "Upload", b.Name, u.Key, u.Id, ":", text(got), there)
		}
	}
	for _, f := range c.Floors {
		got, there := Floor(c, f.Node)
		holds(t, there && got == f, "Floor", f.Node, ":", got, there)
	}
}

func noBucket(t *testing.T, c api.Catalog, name string) {
	t.Helper()
	got, there := Bucket(c, name)
	holds(t, !there && text(got) == text(api.Bucket{}), "Bucket", name, ":", text(got), there)
}

func noObject(t *testing.T, c api.Catalog, bucket, key string) {
	t.Helper()
	got, there := Object(c, bucket, key)
	holds(t, !there && text(got) == text(api.Object{}), "Object", bucket, key, ":", text(got), there)
}

func noUpload(t *testing.T, c api.Catalog, bucket, key string, id api.Id) {
	t.Helper()
	got, there := Upload(c, bucket, key, id)
	holds(t, !there && text(got) == text(api.Upload{}), "Upload", bucket, key, id, ":", text(got), there)
}

func noFloor(t *testing.T, c api.Catalog, node int) {
	t.Helper()
	got, there := Floor(c, node)
	holds(t, !there && got == api.Id{}, "Floor", node, ":", got, there)
}

// P11.1: Bucket, Object, Upload and Floor of what is there.
func TestAskThere(t *testing.T) {
	c := full(t)
	b, there := Bucket(c, "bbb")
	holds(t, there && text(b) == text(api.Bucket{Name: "bbb", Time: 2}), "Bucket bbb:", text(b))
	o, there := Object(c, "aaa", "k")
	holds(t, there && text(o) == text(api.Object{Key: "k", Size: 3, Etag: etagOf("two"), Time: 6, Pieces: []api.Piece{pieceOf(idOf(0, 0, 4), "two")}}), "Object k:", text(o))
	u, there := Upload(c, "aaa", "big", idOf(0, 0, 5))
	want := api.Upload{Id: idOf(0, 0, 5), Key: "big", Parts: []api.Part{{Number: 2, Piece: pieceOf(idOf(0, 1, 1), "second")}, {Number: 4, Piece: pieceOf(idOf(0, 1, 2), "fourth")}}}
	holds(t, there && text(u) == text(want), "Upload 0 0 5:", text(u))
	f, there := Floor(c, 1)
	holds(t, there && f == idOf(1, 1, 1), "Floor 1:", f)
	for _, c := range []api.Catalog{{}, c, manyBuckets(t, 16), manyObjects(t, 128), manyUploads(t, 16), on(t, c, floors(idOf(0, 0, 0)), floors(idOf(15, 0, 0)))} {
		asks(t, c)
	}
}

// P11.1: Bucket, Object, Upload and Floor of what isn't there: ahead of, between and behind those that are, in another bucket, and of what no command makes.
func TestAskGone(t *testing.T) {
	c := on(t, full(t), puts("bbb", "only", idOf(0, 0, 9), "x", 1), starts("bbb", "only", idOf(0, 0, 9)), floors(idOf(3, 0, 0)))
	for _, name := range []string{"", "a", "aa", "aab", "AAA", "aaaa", "bb", "bbbb", "zzz", "\xff", strings.Repeat("a", 1000)} {
		noBucket(t, c, name)
		noObject(t, c, name, "k")
		noUpload(t, c, name, "big", idOf(0, 0, 5))
		noObject(t, c, "aaa", name[min(1, len(name)):]+"!")
		noUpload(t, c, "aaa", name, idOf(0, 0, 5))
	}
	for _, key := range []string{"", " ", "aa", "b", "K", "kk", "big", "only", "z", "\xff", strings.Repeat("k", 1000)} {
		noObject(t, c, "aaa", key)
	}
	noObject(t, c, "bbb", "k")
	noUpload(t, c, "aaa", "only", idOf(0, 0, 9))
	noUpload(t, c, "bbb", "big", idOf(0, 0, 5))
	for _, id := range []api.Id{{}, idOf(0, 0, 4), idOf(0, 0, 6), idOf(0, 0, 7), idOf(0, 1, 5), idOf(1, 0, 5), idOf(0, 0, -5), idOf(-1, 0, 5), idOf(16, 0, 5), idOf(0, -1, 5)} {
		noUpload(t, c, "aaa", "big", id)
	}
	for _, node := range []int{0, 2, 4, 15, 16, -1, -1 << 63, 1<<63 - 1} {
		noFloor(t, c, node)
	}
	for _, c := range []api.Catalog{{}, {Buckets: []api.Bucket{}, Floors: []api.Id{}}} {
		noBucket(t, c, "aaa")
		noObject(t, c, "aaa", "k")
		noUpload(t, c, "aaa", "k", idOf(0, 0, 5))
		noFloor(t, c, 0)
	}
}
