package catalog

import (
	"bollard/api"
	"fmt"
	"testing"
)

// manyBuckets is a catalog with so many buckets: b10, b11 and so on.
func manyBuckets(t *testing.T, n int) api.Catalog {
	t.Helper()
	var c api.Catalog
	for i := range n {
		c = on(t, c, makes(fmt.Sprint("b", 10+i), i))
	}
	return c
}

// manyObjects is a catalog whose bucket aaa has so many objects: k100, k101 and so on.
func manyObjects(t *testing.T, n int) api.Catalog {
	t.Helper()
	c := made(t, makes("aaa", 1), makes("bbb", 1))
	for i := range n {
		c = on(t, c, puts("aaa", fmt.Sprint("k", 100+i), idOf(0, 1, i), "x", i))
	}
	return c
}

// manyUploads is a catalog whose bucket aaa has so many uploads: 1 0 0, 1 0 1 and so on, all of key k.
func manyUploads(t *testing.T, n int) api.Catalog {
	t.Helper()
	c := made(t, makes("aaa", 1), makes("bbb", 1))
	for i := range n {
		c = on(t, c, starts("aaa", "k", idOf(1, 0, i)))
	}
	return c
}

// P11.1, P11.2: MaxBuckets just not reached, reached, and reached with a name that is there.
func TestMaxBuckets(t *testing.T) {
	c := manyBuckets(t, 15)
	refuses(t, c, makes("b10", 7), api.CodeExists)
	for _, name := range []string{"a00", "b105", "zzz"} {
		comes(t, c, makes(name, 7), api.CodeOK, "")
	}
	c = on(t, c, makes("b25", 7))
	holds(t, len(c.Buckets) == 16, "buckets:", len(c.Buckets))
	for _, name := range []string{"a00", "b105", "zzz"} {
		refuses(t, c, makes(name, 7), api.CodeTooMany)
	}
	for _, b := range c.Buckets {
		refuses(t, c, makes(b.Name, 7), api.CodeExists)
		comes(t, c, puts(b.Name, "k", idOf(0, 0, 1), "hello", 7), api.CodeOK, helloEtag)
		holds(t, len(on(t, c, drops(b.Name), makes("zzz", 7)).Buckets) == 16, "one goes, one comes")
	}
}

// P11.1, P11.2: MaxObjects just not reached, reached, and reached with a key that is there.
func TestMaxObjects(t *testing.T) {
	c := manyObjects(t, 127)
	comes(t, c, puts("aaa", "k100", idOf(2, 2, 2), "hello", 7), api.CodeOK, helloEtag)
	for _, key := range []string{"a", "k105x", "z"} {
		comes(t, c, puts("aaa", key, idOf(2, 2, 2), "hello", 7), api.CodeOK, helloEtag)
	}
	c = on(t, c, puts("aaa", "k227", idOf(2, 2, 2), "x", 7))
	holds(t, len(c.Buckets[0].Objects) == 128, "objects:", len(c.Buckets[0].Objects))
	for _, key := range []string{"a", "k105x", "z"} {
		refuses(t, c, puts("aaa", key, idOf(2, 2, 2), "x", 7), api.CodeTooMany)
		refuses(t, c, puts("aab", key, idOf(2, 2, 2), "x", 7), api.CodeNoBucket)
		comes(t, c, puts("bbb", key, idOf(2, 2, 2), "hello", 7), api.CodeOK, helloEtag)
	}
	for _, o := range c.Buckets[0].Objects {
		comes(t, c, puts("aaa", o.Key, idOf(2, 2, 2), "hello", 7), api.CodeOK, helloEtag)
	}
	comes(t, on(t, c, deletes("aaa", "k150")), puts("aaa", "z", idOf(2, 2, 2), "hello", 7), api.CodeOK, helloEtag)
	comes(t, c, starts("aaa", "z", idOf(2, 2, 2)), api.CodeOK, "")
}

// P11.1, P11.2: Complete onto a key that isn't there, and onto one that is, with one object fewer than MaxObjects and with all; CodeNoPart comes ahead.
func TestCompleteMaxObjects(t *testing.T) {
	sum := plainSum([]api.Piece{pieceOf(idOf(3, 3, 3), "hello")})
	for _, n := range []int{127, 128} {
		c := manyObjects(t, n)
		for _, key := range []string{"a", "k105x", "z"} {
			d := on(t, c, starts("aaa", key, idOf(4, 4, 4)), parts("aaa", key, idOf(4, 4, 4), 3, idOf(3, 3, 3), "hello"))
			refuses(t, d, completes("aaa", key, idOf(4, 4, 4), 7, 2, 3), api.CodeNoPart)
			refuses(t, d, completes("aaa", key, idOf(4, 4, 5), 7, 3), api.CodeNoUpload)
			if n == 128 {
				refuses(t, d, completes("aaa", key, idOf(4, 4, 4), 7, 3), api.CodeTooMany)
				d = on(t, d, deletes("aaa", "k100"))
			}
			comes(t, d, completes("aaa", key, idOf(4, 4, 4), 7, 3), api.CodeOK, sum)
		}
		for _, key := range []string{"k100", "k150", c.Buckets[0].Objects[n-1].Key} {
			d := on(t, c, starts("aaa", key, idOf(4, 4, 4)), parts("aaa", key, idOf(4, 4, 4), 3, idOf(3, 3, 3), "hello"))
			d = comes(t, d, completes("aaa", key, idOf(4, 4, 4), 7, 3), api.CodeOK, sum)
			holds(t, len(d.Buckets[0].Objects) == n, "objects:", len(d.Buckets[0].Objects))
		}
	}
}

// P11.1, P11.2: MaxUploads just not reached, reached, and reached with an id that is there: the document asks only how many there are.
func TestMaxUploads(t *testing.T) {
	c := manyUploads(t, 15)
	for _, id := range []api.Id{idOf(0, 9, 9), idOf(1, 0, 3), idOf(1, 0, 15), idOf(2, 0, 0)} {
		comes(t, c, starts("aaa", "k", id), api.CodeOK, "")
	}
	c = on(t, c, starts("aaa", "k", idOf(1, 0, 15)))
	holds(t, len(c.Buckets[0].Uploads) == 16, "uploads:", len(c.Buckets[0].Uploads))
	for _, id := range []api.Id{idOf(0, 9, 9), idOf(1, 0, 0), idOf(1, 0, 3), idOf(1, 0, 15), idOf(2, 0, 0)} {
		for _, key := range []string{"k", "l"} {
			refuses(t, c, starts("aaa", key, id), api.CodeTooMany)
			refuses(t, c, starts("aab", key, id), api.CodeNoBucket)
			comes(t, c, starts("bbb", key, id), api.CodeOK, "")
		}
	}
	comes(t, on(t, c, aborts("aaa", "k", idOf(1, 0, 3))), starts("aaa", "l", idOf(9, 9, 9)), api.CodeOK, "")
	comes(t, c, parts("aaa", "k", idOf(1, 0, 3), 1, idOf(2, 2, 2), "hello"), api.CodeOK, helloEtag)
	comes(t, c, puts("aaa", "k", idOf(2, 2, 2), "hello", 7), api.CodeOK, helloEtag)
}
