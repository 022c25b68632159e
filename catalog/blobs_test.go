package catalog

import (
	"bollard/api"
	"fmt"
	"slices"
	"strings"
	"testing"
)

// blobs are the ids of the pieces that Blobs goes over.
func blobs(c api.Catalog) string {
	var out []string
	for p := range Blobs(c) {
		out = append(out, fmt.Sprintf("%d-%d-%d", p.Blob.Node, p.Blob.Boot, p.Blob.Seq))
	}
	return strings.Join(out, " ")
}

// several is a catalog with objects of one piece and of several, and uploads with and without parts, in two of its four buckets.
func several(t *testing.T) api.Catalog {
	t.Helper()
	c := made(t, makes("ddd", 1), makes("aaa", 1), makes("bbb", 1), makes("ccc", 1), floors(idOf(9, 9, 9)))
	for i, bucket := range []string{"ccc", "aaa"} {
		up := idOf(7, i, 7)
		c = on(t, c, puts(bucket, "z", idOf(1, i, 1), "z", 1), puts(bucket, "a", idOf(2, i, 2), "a", 1), starts(bucket, "m", up))
		for n := range 3 {
			c = on(t, c, parts(bucket, "m", up, 5-n, idOf(3, i, n), "m"))
		}
		c = on(t, c, completes(bucket, "m", up, 1, 3, 4, 5), starts(bucket, "a", idOf(6, 0, 2)), starts(bucket, "z", idOf(6, 0, 1)), starts(bucket, "n", idOf(6, 0, 0)))
		c = on(t, c, parts(bucket, "a", idOf(6, 0, 2), 2, idOf(4, i, 2), "x"), parts(bucket, "a", idOf(6, 0, 2), 1, idOf(4, i, 1), "x"), parts(bucket, "z", idOf(6, 0, 1), 9, idOf(5, i, 0), "x"))
	}
	return c
}

// P11.1: Blobs goes over all pieces in the order that is told, each with its size and etag.
func TestBlobs(t *testing.T) {
	c := several(t)
	want := "2-1-2 3-1-2 3-1-1 3-1-0 1-1-1 5-1-0 4-1-1 4-1-2 2-0-2 3-0-2 3-0-1 3-0-0 1-0-1 5-0-0 4-0-1 4-0-2"
	holds(t, blobs(c) == want, "Blobs goes over", blobs(c))
	first := slices.Collect(Blobs(c))[0]
	holds(t, first == pieceOf(idOf(2, 1, 2), "a"), "the first piece", first)
	holds(t, blobs(api.Catalog{}) == "" && blobs(made(t, makes("aaa", 1), floors(idOf(1, 1, 1)), starts("aaa", "k", idOf(0, 0, 1)))) == "", "Blobs of no pieces")
	again := on(t, made(t, makes("aaa", 1)), puts("aaa", "a", idOf(0, 0, 1), "x", 1), puts("aaa", "b", idOf(0, 0, 1), "x", 1))
	holds(t, blobs(again) == "0-0-1 0-0-1", "a blob of two objects:", blobs(again))
}

// P11.1: what is put again, deleted, aborted, expired or not taken into an object isn't gone over any more.
func TestBlobsGone(t *testing.T) {
	c := full(t)
	holds(t, blobs(c) == "0-0-3 0-0-4 0-1-1 0-1-2", "Blobs", blobs(c))
	for want, x := range map[string]api.Command{
		"0-0-3 2-2-2 0-1-1 0-1-2": puts("aaa", "k", idOf(2, 2, 2), "x", 1),
		"0-0-4 0-1-1 0-1-2":       deletes("aaa", "a"),
		"0-0-3 0-0-4":             aborts("aaa", "big", idOf(0, 0, 5)),
		"0-0-3 0-0-4 2-2-2 0-1-2": parts("aaa", "big", idOf(0, 0, 5), 2, idOf(2, 2, 2), "x"),
		"0-0-3 0-1-2 0-0-4":       completes("aaa", "big", idOf(0, 0, 5), 1, 4),
	} {
		holds(t, blobs(on(t, c, x)) == want, "behind", text(x), "Blobs goes over", blobs(on(t, c, x)))
	}
	d := on(t, c, rules("aaa", 1), expires(6))
	holds(t, blobs(d) == "0-0-4 0-1-1 0-1-2", "behind Expire Blobs goes over", blobs(d))
}

// Rule 9: broken off anywhere, and gone over again, also while it is gone over.
func TestBlobsAgain(t *testing.T) {
	c := several(t)
	all := Blobs(c)
	want := plainBlobs(c)
	holds(t, len(want) == 16, "pieces:", len(want))
	for stop := range len(want) + 1 {
		var got []api.Piece
		for p := range all {
			if len(got) == stop {
				break
			}
			got = append(got, p)
		}
		holds(t, slices.Equal(got, want[:min(stop, len(want))]), "broken off behind", stop, ":", got)
	}
	for range 2 {
		holds(t, slices.Equal(slices.Collect(all), want), "gone over again")
	}
	n := 0
	for p := range all {
		holds(t, p == want[n] && slices.Equal(slices.Collect(all), want), "gone over in one another, at", n)
		n++
	}
	holds(t, n == len(want), "gone over", n)
}

// Rule 9: Blobs goes over what stood when it was called, whatever becomes of the catalog.
func TestBlobsStood(t *testing.T) {
	c := several(t)
	want := plainBlobs(c)
	all := Blobs(c)
	for i := range c.Buckets {
		b := &c.Buckets[i]
		for k := range b.Objects {
			clear(b.Objects[k].Pieces)
		}
		for k := range b.Uploads {
			clear(b.Uploads[k].Parts)
			b.Uploads[k].Parts = nil
		}
		clear(b.Objects)
	}
	holds(t, slices.Equal(slices.Collect(all), want), "Blobs goes over what stands later")
	clear(c.Buckets)
	holds(t, slices.Equal(slices.Collect(all), want), "Blobs goes over what stands later")
}

// P11.1: Sum of no piece, one and several, against digests worked out by hand; Blob and Size don't matter.
func TestSum(t *testing.T) {
	zeros, fs := strings.Repeat("0", 64), strings.Repeat("f", 64)
	for _, one := range []struct {
		etags []string
		want  string
	}{
		{nil, "e3b0c44298fc1c149afbf4c8996fb92427ae41e4649b934ca495991b7852b855-0"},
		{[]string{zeros}, "60e05bd1b195af2f94112fa7197a5c88289058840ce7c6df9693756bc6250f55-1"},
		{[]string{helloEtag}, helloOneEtag},
		{[]string{helloEtag, zeros}, "caf60bff5190492a35fbeb5024ac06632a54bf17fcfb09ab9a2b40a2274ecfb8-2"},
		{[]string{zeros, helloEtag}, "e3ca85bc58698be7de6c986766d26ce7f0bcbb603cb4a60b500c35ecf4e2df1e-2"},
		{[]string{helloEtag, helloEtag}, "286d189fda11bf4e906b6973a173009f47ede16532f1bae726223f8ee155d73b-2"},
		{[]string{helloEtag, zeros, fs}, "7f53f217b02388ac023736cad209b5682fab8afc3e969e89d168806930fe1195-3"},
	} {
		var list, other []api.Piece
		for i, etag := range one.etags {
			list = append(list, api.Piece{Blob: idOf(i, 1, 1), Size: i, Etag: etag})
			other = append(other, api.Piece{Blob: idOf(1, i, 9), Size: 1024, Etag: etag})
		}
		holds(t, Sum(list) == one.want && Sum(other) == one.want, "Sum of", one.etags, ":", Sum(list), Sum(other))
		holds(t, plainSum(list) == one.want, "Sum by the other implementation of", one.etags)
	}
	holds(t, Sum([]api.Piece{}) == Sum(nil), "Sum of an empty list")
}

// P11.1: Sum of as many pieces as there may be and more, and of etags that aren't any.
func TestSumMany(t *testing.T) {
	r := source()
	for n := range 130 {
		var list []api.Piece
		for range n {
			list = append(list, api.Piece{Etag: etagOf(fmt.Sprint(r.Uint64()))})
		}
		holds(t, Sum(list) == plainSum(list) && strings.HasSuffix(Sum(list), fmt.Sprint("-", n)), "Sum of", n)
		if n > 0 {
			list[r.IntN(n)].Etag = strings.Repeat("é\x00", r.IntN(100))
		}
		holds(t, Sum(list) == plainSum(list), "Sum of", n, "etags of any kind")
	}
}
