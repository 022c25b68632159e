package catalog

import (
	"bollard/api"
	"fmt"
	"testing"
)

// P11.1: Start with the Id of an upload that is there: that one is gone, with its parts, and its key need not be the same.
func TestStartAgain(t *testing.T) {
	c := full(t)
	d := comes(t, c, starts("aaa", "big", idOf(0, 0, 5)), api.CodeOK, "")
	holds(t, uploads(d, "aaa") == "0-0-5 big [], 0-0-6 k []", "uploads", uploads(d, "aaa"))
	d = comes(t, c, starts("aaa", "new", idOf(0, 0, 5)), api.CodeOK, "")
	holds(t, uploads(d, "aaa") == "0-0-5 new [], 0-0-6 k []", "uploads", uploads(d, "aaa"))
	refuses(t, d, aborts("aaa", "big", idOf(0, 0, 5)), api.CodeNoUpload)
	d = comes(t, c, starts("bbb", "big", idOf(0, 0, 5)), api.CodeOK, "")
	holds(t, uploads(d, "aaa") == "0-0-5 big [2 4], 0-0-6 k []" && uploads(d, "bbb") == "0-0-5 big []", "uploads", text(d))
	d = comes(t, c, starts("aaa", "big", idOf(0, 0, 7)), api.CodeOK, "")
	holds(t, uploads(d, "aaa") == "0-0-5 big [2 4], 0-0-6 k [], 0-0-7 big []", "uploads of one key:", uploads(d, "aaa"))
}

// P11.1: an upload's Id with another Key, also that of another upload or of an object, is no upload.
func TestOtherKey(t *testing.T) {
	c := full(t)
	for _, key := range []string{"k", "a", "bi", "bigg", "BIG", "x"} {
		refuses(t, c, parts("aaa", key, idOf(0, 0, 5), 2, idOf(1, 1, 1), "x"), api.CodeNoUpload)
		refuses(t, c, completes("aaa", key, idOf(0, 0, 5), 7, 2), api.CodeNoUpload)
		refuses(t, c, completes("aaa", key, idOf(0, 0, 5), 7, 3), api.CodeNoUpload)
		refuses(t, c, aborts("aaa", key, idOf(0, 0, 5)), api.CodeNoUpload)
		_, there := Upload(c, "aaa", key, idOf(0, 0, 5))
		holds(t, !there, "an upload with the key", key)
	}
}

// P11.1, P8: Complete with each choice of an upload's parts: the pieces in their order, their sizes together, their etag; the upload and its other parts are gone.
func TestComplete(t *testing.T) {
	up := idOf(0, 0, 5)
	c := made(t, makes("aaa", 1), puts("aaa", "b", idOf(9, 9, 9), "older", 3), starts("aaa", "u", idOf(0, 0, 4)), starts("aaa", "b", up), starts("aaa", "b", idOf(0, 0, 6)))
	bodies := []string{"first", "", "the third", "4"}
	for i, n := range []int{16, 1, 9, 10} {
		c = on(t, c, parts("aaa", "b", up, n, idOf(i, 1, 1), bodies[i]))
	}
	// By rising number: 1, 9, 10, 16.
	rising := []api.Piece{pieceOf(idOf(1, 1, 1), ""), pieceOf(idOf(2, 1, 1), "the third"), pieceOf(idOf(3, 1, 1), "4"), pieceOf(idOf(0, 1, 1), "first")}
	for choice := 1; choice < 16; choice++ {
		o := api.Object{Key: "b", Time: 8}
		var numbers []int
		for i, n := range []int{1, 9, 10, 16} {
			if choice>>i&1 == 1 {
				numbers = append(numbers, n)
				o.Pieces = append(o.Pieces, rising[i])
				o.Size += rising[i].Size
			}
		}
		o.Etag = plainSum(o.Pieces)
		d := comes(t, c, completes("aaa", "b", up, 8, numbers...), api.CodeOK, o.Etag)
		want := api.Catalog{Buckets: []api.Bucket{{Name: "aaa", Time: 1, Objects: []api.Object{o}, Uploads: []api.Upload{{Id: idOf(0, 0, 4), Key: "u"}, {Id: idOf(0, 0, 6), Key: "b"}}}}}
		holds(t, same(d, want), "Complete with", numbers, "makes", text(d))
		refuses(t, d, completes("aaa", "b", up, 8, numbers...), api.CodeNoUpload)
		refuses(t, d, parts("aaa", "b", up, 1, idOf(1, 1, 1), "x"), api.CodeNoUpload)
	}
}

// P11.1: Complete with a part that isn't there, at the beginning, in the middle and at the end of those that are.
func TestNoPart(t *testing.T) {
	c := full(t)
	for _, numbers := range [][]int{{1}, {3}, {5}, {16}, {1, 2}, {1, 2, 4}, {2, 3}, {2, 3, 4}, {2, 4, 5}, {2, 4, 16}, {1, 3, 5}} {
		refuses(t, c, completes("aaa", "big", idOf(0, 0, 5), 7, numbers...), api.CodeNoPart)
	}
	for n := 1; n <= 16; n++ {
		refuses(t, c, completes("aaa", "k", idOf(0, 0, 6), 7, n), api.CodeNoPart)
	}
	holds(t, len(on(t, c, completes("aaa", "big", idOf(0, 0, 5), 7, 2, 4)).Buckets[0].Objects) == 3, "objects")
}

// P11.1: of an upload with all MaxParts parts, the greatest object there can be.
func TestAllParts(t *testing.T) {
	up := idOf(0, 0, 5)
	c := made(t, makes("aaa", 1), starts("aaa", "b", up))
	var pieces []api.Piece
	var numbers []int
	for n := 1; n <= 16; n++ {
		body := fmt.Sprintf("%01024d", n)
		c = on(t, c, parts("aaa", "b", up, n, idOf(n-1, n, n), body))
		pieces, numbers = append(pieces, pieceOf(idOf(n-1, n, n), body)), append(numbers, n)
	}
	d := on(t, c, completes("aaa", "b", up, 8, numbers...))
	o, there := Object(d, "aaa", "b")
	want := api.Object{Key: "b", Size: 16384, Etag: plainSum(pieces), Time: 8, Pieces: pieces}
	holds(t, there && text(o) == text(want), "the object", text(o))
}

// P11.1: a blob may stand in an object and in uploads at once; an upload that is aborted is gone alone.
func TestAbort(t *testing.T) {
	c := full(t)
	d := comes(t, c, aborts("aaa", "big", idOf(0, 0, 5)), api.CodeOK, "")
	holds(t, uploads(d, "aaa") == "0-0-6 k []" && keys(d, "aaa") == "a k", "behind Abort:", text(d))
	refuses(t, d, aborts("aaa", "big", idOf(0, 0, 5)), api.CodeNoUpload)
	d = comes(t, c, aborts("aaa", "k", idOf(0, 0, 6)), api.CodeOK, "")
	holds(t, uploads(d, "aaa") == "0-0-5 big [2 4]" && keys(d, "aaa") == "a k", "behind Abort:", text(d))
}
