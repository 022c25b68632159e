package catalog

import (
	"bollard/api"
	"strings"
	"testing"
)

// helloEtag is the digest of "hello"; its etag as the one piece of an upload is the digest of that text, worked out by hand.
const (
	helloEtag    = "2cf24dba5fb0a30e26e83b2ac5b9e29e1b161e5c1fa7425e73043362938b9824"
	helloOneEtag = "d7914fe546b684688bb95f4f888a92dfc680603a75f23eb823658031fff766d9-1"
)

// P11.1: the chapter's examples.
func TestExamples(t *testing.T) {
	c := comes(t, api.Catalog{}, makes("aaa", 3), api.CodeOK, "")
	refuses(t, c, makes("aaa", 4), api.CodeExists)
	c = comes(t, c, puts("aaa", "k", idOf(0, 0, 3), "hello", 5), api.CodeOK, helloEtag)
	refuses(t, c, drops("aaa"), api.CodeNotEmpty)
	c = comes(t, c, deletes("aaa", "x"), api.CodeOK, "")
	up := idOf(0, 0, 5)
	c = comes(t, c, starts("aaa", "big", up), api.CodeOK, "")
	c = comes(t, c, parts("aaa", "big", up, 2, idOf(1, 2, 3), "hello"), api.CodeOK, helloEtag)
	refuses(t, c, completes("aaa", "big", up, 9, 1), api.CodeNoPart)
	c = comes(t, c, completes("aaa", "big", up, 9, 2), api.CodeOK, helloOneEtag)
	want := api.Catalog{Buckets: []api.Bucket{{Name: "aaa", Time: 3, Objects: []api.Object{
		{Key: "big", Size: 5, Etag: helloOneEtag, Time: 9, Pieces: []api.Piece{{Blob: idOf(1, 2, 3), Size: 5, Etag: helloEtag}}},
		{Key: "k", Size: 5, Etag: helloEtag, Time: 5, Pieces: []api.Piece{{Blob: idOf(0, 0, 3), Size: 5, Etag: helloEtag}}},
	}}}}
	holds(t, same(c, want), "the examples make", text(c))
}

// P11.1: what each command makes, every field of it.
func TestWhatIsMade(t *testing.T) {
	up := idOf(15, maxTime, maxTime)
	c := made(t, makes("b-1", maxTime), rules("b-1", maxTime), starts("b-1", "key of ~", up))
	want := api.Catalog{Buckets: []api.Bucket{{Name: "b-1", Time: maxTime, Days: maxTime, Uploads: []api.Upload{{Id: up, Key: "key of ~"}}}}}
	holds(t, same(c, want), "the commands make", text(c))
	c = on(t, c, parts("b-1", "key of ~", up, 16, idOf(2, 3, 4), strings.Repeat("x", 1024)))
	piece := api.Piece{Blob: idOf(2, 3, 4), Size: 1024, Etag: etagOf(strings.Repeat("x", 1024))}
	want.Buckets[0].Uploads[0].Parts = []api.Part{{Number: 16, Piece: piece}}
	holds(t, same(c, want), "the commands make", text(c))
	c = on(t, c, floors(idOf(4, 5, 6)))
	want.Floors = []api.Id{idOf(4, 5, 6)}
	holds(t, same(c, want), "the commands make", text(c))
	c = on(t, c, completes("b-1", "key of ~", up, 77, 16))
	want.Buckets[0].Uploads = nil
	want.Buckets[0].Objects = []api.Object{{Key: "key of ~", Size: 1024, Etag: plainSum([]api.Piece{piece}), Time: 77, Pieces: []api.Piece{piece}}}
	holds(t, same(c, want), "the commands make", text(c))
	c = on(t, c, puts("b-1", "key of ~", idOf(7, 8, 9), "", 78))
	want.Buckets[0].Objects = []api.Object{{Key: "key of ~", Size: 0, Etag: etagOf(""), Time: 78, Pieces: []api.Piece{{Blob: idOf(7, 8, 9), Etag: etagOf("")}}}}
	holds(t, same(c, want), "the commands make", text(c))
}

// full is a catalog with two buckets, of which aaa has objects a and k, and two uploads: 0 0 5 of big with the parts 2 and 4, 0 0 6 of k with none.
func full(t *testing.T) api.Catalog {
	t.Helper()
	return made(t, makes("aaa", 1), makes("bbb", 2), floors(idOf(1, 1, 1)),
		puts("aaa", "a", idOf(0, 0, 3), "one", 5), puts("aaa", "k", idOf(0, 0, 4), "two", 6),
		starts("aaa", "big", idOf(0, 0, 5)), starts("aaa", "k", idOf(0, 0, 6)),
		parts("aaa", "big", idOf(0, 0, 5), 2, idOf(0, 1, 1), "second"), parts("aaa", "big", idOf(0, 0, 5), 4, idOf(0, 1, 2), "fourth"))
}

// P11.1, P11.3: of each Kind every code of its row but CodeTooMany, each by itself and ahead of those that come later, and CodeOK beside it.
func TestCodes(t *testing.T) {
	c, up, other := full(t), idOf(0, 0, 5), idOf(0, 0, 6)
	refuses(t, c, makes("aaa", 7), api.CodeExists)
	comes(t, c, makes("aab", 7), api.CodeOK, "")
	refuses(t, c, drops("aab"), api.CodeNoBucket)
	refuses(t, c, drops("aaa"), api.CodeNotEmpty)
	comes(t, c, drops("bbb"), api.CodeOK, "")
	refuses(t, c, puts("aab", "k", idOf(1, 1, 1), "x", 7), api.CodeNoBucket)
	comes(t, c, puts("aaa", "k", idOf(1, 1, 1), "hello", 7), api.CodeOK, helloEtag)
	comes(t, c, puts("aaa", "l", idOf(1, 1, 1), "hello", 7), api.CodeOK, helloEtag)
	refuses(t, c, deletes("aab", "k"), api.CodeNoBucket)
	comes(t, c, deletes("aaa", "k"), api.CodeOK, "")
	comes(t, c, deletes("bbb", "k"), api.CodeOK, "")
	refuses(t, c, starts("aab", "k", idOf(1, 1, 1)), api.CodeNoBucket)
	comes(t, c, starts("aaa", "k", idOf(1, 1, 1)), api.CodeOK, "")
	refuses(t, c, parts("aab", "big", up, 1, idOf(1, 1, 1), "x"), api.CodeNoBucket)
	refuses(t, c, parts("bbb", "big", up, 1, idOf(1, 1, 1), "x"), api.CodeNoUpload)
	refuses(t, c, parts("aaa", "big", idOf(0, 0, 7), 1, idOf(1, 1, 1), "x"), api.CodeNoUpload)
	comes(t, c, parts("aaa", "big", up, 1, idOf(1, 1, 1), "hello"), api.CodeOK, helloEtag)
	refuses(t, c, completes("aab", "big", up, 7, 1), api.CodeNoBucket)
	refuses(t, c, completes("bbb", "big", up, 7, 1), api.CodeNoUpload)
	refuses(t, c, completes("aaa", "big", other, 7, 1), api.CodeNoUpload)
	refuses(t, c, completes("aaa", "big", up, 7, 1), api.CodeNoPart)
	refuses(t, c, completes("aaa", "k", other, 7, 1), api.CodeNoPart)
	comes(t, c, completes("aaa", "big", up, 7, 2), api.CodeOK, plainSum([]api.Piece{pieceOf(idOf(0, 1, 1), "second")}))
	refuses(t, c, aborts("aab", "big", up), api.CodeNoBucket)
	refuses(t, c, aborts("bbb", "big", up), api.CodeNoUpload)
	comes(t, c, aborts("aaa", "big", up), api.CodeOK, "")
	comes(t, c, aborts("aaa", "k", other), api.CodeOK, "")
	refuses(t, c, rules("aab", 3), api.CodeNoBucket)
	comes(t, c, rules("aaa", 3), api.CodeOK, "")
	for _, c := range []api.Catalog{c, {}} {
		comes(t, c, expires(maxTime), api.CodeOK, "")
		comes(t, c, floors(idOf(0, 0, 0)), api.CodeOK, "")
		comes(t, c, floors(idOf(1, 1, 1)), api.CodeOK, "")
	}
}

// P11.1: of the empty catalog every command on a bucket comes to CodeNoBucket, but Make.
func TestEmptyCatalog(t *testing.T) {
	up, blob := idOf(0, 0, 5), idOf(1, 1, 1)
	for _, x := range []api.Command{
		drops("aaa"), puts("aaa", "k", blob, "x", 7), deletes("aaa", "k"), starts("aaa", "k", up), parts("aaa", "k", up, 1, blob, "x"),
		completes("aaa", "k", up, 7, 1), aborts("aaa", "k", up), rules("aaa", 3),
	} {
		refuses(t, api.Catalog{}, x, api.CodeNoBucket)
	}
	holds(t, same(made(t, expires(maxTime)), api.Catalog{}), "Expire makes something of nothing")
	c := made(t, makes("aaa", 0))
	holds(t, same(c, api.Catalog{Buckets: []api.Bucket{{Name: "aaa"}}}), "Make makes", text(c))
	holds(t, same(on(t, c, drops("aaa")), api.Catalog{}), "Make and Drop don't lead back")
}

// P11.1: a bucket is dropped if it has neither objects nor uploads, whatever its Days, and is as new when it is made again.
func TestDrop(t *testing.T) {
	c := made(t, makes("aaa", 1), makes("bbb", 2), rules("bbb", 9), makes("ccc", 3))
	refuses(t, on(t, c, puts("bbb", "k", idOf(0, 0, 3), "x", 5)), drops("bbb"), api.CodeNotEmpty)
	refuses(t, on(t, c, starts("bbb", "k", idOf(0, 0, 3))), drops("bbb"), api.CodeNotEmpty)
	refuses(t, on(t, c, starts("bbb", "k", idOf(0, 0, 3)), puts("bbb", "k", idOf(0, 0, 3), "x", 5)), drops("bbb"), api.CodeNotEmpty)
	again := on(t, c, puts("bbb", "k", idOf(0, 0, 3), "x", 5), starts("bbb", "k", idOf(0, 0, 3)), deletes("bbb", "k"), aborts("bbb", "k", idOf(0, 0, 3)))
	holds(t, same(again, c), "what was put and started is not gone:", text(again))
	for name, left := range map[string]string{"aaa": "bbb ccc", "bbb": "aaa ccc", "ccc": "aaa bbb"} {
		holds(t, names(on(t, c, drops(name))) == left, "behind Drop of", name)
	}
	d := on(t, c, drops("bbb"), makes("bbb", 7))
	holds(t, d.Buckets[1].Name == "bbb" && d.Buckets[1].Days == 0 && d.Buckets[1].Time == 7, "a bucket that is made again:", text(d))
}

// P11.3: Put and then Delete of a key that wasn't there lead back; of one that was there they don't.
func TestPutAndDelete(t *testing.T) {
	for _, c := range []api.Catalog{made(t, makes("aaa", 1)), full(t)} {
		for _, key := range []string{" ", "b", "~", strings.Repeat("k", 200)} {
			d := on(t, c, puts("aaa", key, idOf(3, 3, 3), "x", 4), deletes("aaa", key))
			holds(t, same(c, d), "Put and Delete of", key, "lead to", text(d))
		}
	}
	c := on(t, full(t), puts("aaa", "k", idOf(3, 3, 3), "x", 4), deletes("aaa", "k"))
	holds(t, keys(c, "aaa") == "a", "keys", keys(c, "aaa"))
}
