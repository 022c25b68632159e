package catalog

import (
	"bollard/api"
	"slices"
	"strings"
	"testing"
)

// orders are all orders of the numbers below n.
func orders(n int) [][]int {
	if n == 0 {
		return [][]int{nil}
	}
	var out [][]int
	for _, order := range orders(n - 1) {
		for place := range n {
			out = append(out, slices.Insert(slices.Clone(order), place, n-1))
		}
	}
	return out
}

// P11.1, P11.2: whatever the order in which they come, buckets, objects, uploads, parts and floors stand as told: each is put in at the beginning, in the middle and at the end of those that are there.
func TestEveryOrder(t *testing.T) {
	bucketNames := []string{"a-a", "a.a", "a0a", "aaa", "aaaa"}
	someKeys := []string{" ", "A", "a", "a ", "b"}
	ids := []api.Id{idOf(0, 9, 9), idOf(1, 0, 10), idOf(1, 2, 3), idOf(1, 10, 2), idOf(10, 0, 0)}
	numbers := []int{1, 2, 9, 10, 16}
	for _, order := range orders(5) {
		c := made(t, makes("mmm", 1), starts("mmm", "u", idOf(5, 5, 5)))
		for _, i := range order {
			node := ids[i]
			node.Node = numbers[i] - 1
			c = on(t, c, makes(bucketNames[i], i), puts("mmm", someKeys[i], idOf(i, 0, 0), someKeys[i], i), starts("mmm", someKeys[i], ids[i]),
				parts("mmm", "u", idOf(5, 5, 5), numbers[i], idOf(i, 1, 1), someKeys[i]), floors(node))
		}
		holds(t, names(c) == strings.Join(bucketNames, " ")+" mmm", "buckets", names(c), "behind", order)
		holds(t, keys(c, "mmm") == strings.Join(someKeys, " "), "objects", keys(c, "mmm"), "behind", order)
		want := "0-9-9   [], 1-0-10 A [], 1-2-3 a [], 1-10-2 a  [], 5-5-5 u [1 2 9 10 16], 10-0-0 b []"
		holds(t, uploads(c, "mmm") == want, "uploads", uploads(c, "mmm"), "behind", order)
		holds(t, text(c.Floors) == text([]api.Id{idOf(0, 9, 9), idOf(1, 0, 10), idOf(8, 2, 3), idOf(9, 10, 2), idOf(15, 0, 0)}), "floors", text(c.Floors), "behind", order)
	}
}

// P11.1: an object that is put again takes the older one's place, wherever it stands, and nothing of the older one is left.
func TestPutAgain(t *testing.T) {
	c := made(t, makes("aaa", 1))
	all := []string{"a", "b", "c", "d"}
	for i, key := range all {
		c = on(t, c, puts("aaa", key, idOf(0, 0, i), "old", 5))
	}
	for i, key := range all {
		d := comes(t, c, puts("aaa", key, idOf(1, 2, 3), "hello", 2), api.CodeOK, helloEtag)
		want := normal(c)
		want.Buckets[0].Objects[i] = api.Object{Key: key, Size: 5, Etag: helloEtag, Time: 2, Pieces: []api.Piece{{Blob: idOf(1, 2, 3), Size: 5, Etag: helloEtag}}}
		holds(t, same(d, want), "Put of", key, "again makes", text(d))
	}
}

// P11.1: a part that is put again takes the older one's place.
func TestPartAgain(t *testing.T) {
	up := idOf(0, 0, 5)
	c := made(t, makes("aaa", 1), starts("aaa", "big", up))
	for n := 1; n <= 16; n++ {
		c = on(t, c, parts("aaa", "big", up, n, idOf(0, 0, n), "old"))
	}
	for n := 1; n <= 16; n++ {
		d := comes(t, c, parts("aaa", "big", up, n, idOf(1, 2, 3), "hello"), api.CodeOK, helloEtag)
		want := normal(c)
		want.Buckets[0].Uploads[0].Parts[n-1] = api.Part{Number: n, Piece: api.Piece{Blob: idOf(1, 2, 3), Size: 5, Etag: helloEtag}}
		holds(t, same(d, want), "Part", n, "again makes", text(d))
	}
}

// P11.1: an object is deleted wherever it stands, a key that isn't there ahead, between and behind those that are deletes nothing.
func TestDelete(t *testing.T) {
	c := made(t, makes("aaa", 1), makes("bbb", 1), puts("bbb", "c", idOf(0, 0, 9), "other", 5))
	for i, key := range []string{"b", "c", "d", "f"} {
		c = on(t, c, puts("aaa", key, idOf(0, 0, i), key, 5))
	}
	for key, left := range map[string]string{"b": "c d f", "c": "b d f", "d": "b c f", "f": "b c d", "a": "b c d f", "bb": "b c d f", "e": "b c d f", "g": "b c d f", "B": "b c d f"} {
		d := comes(t, c, deletes("aaa", key), api.CodeOK, "")
		holds(t, keys(d, "aaa") == left && keys(d, "bbb") == "c", "behind Delete of", key, ":", text(d))
	}
}

// P11.1: names, keys and ids that begin alike, or differ in one byte or number, are told apart.
func TestAlike(t *testing.T) {
	c := made(t, makes("aaa", 1), makes("aaaa", 2), puts("aaa", "k", idOf(0, 0, 1), "x", 1), puts("aaaa", "kk", idOf(0, 0, 2), "x", 1))
	refuses(t, c, makes("aaaa", 3), api.CodeExists)
	refuses(t, c, rules("aaaaa", 3), api.CodeNoBucket)
	refuses(t, c, rules("aab", 3), api.CodeNoBucket)
	holds(t, names(on(t, c, makes("aaaaa", 3), makes("aab", 3))) == "aaa aaaa aaaaa aab", "buckets")
	holds(t, keys(on(t, c, deletes("aaa", "kk"), deletes("aaa", "K"), deletes("aaa", "k ")), "aaa") == "k", "keys")
	up := idOf(2, 2, 2)
	c = on(t, c, starts("aaa", "k", up))
	for _, other := range []api.Id{idOf(1, 2, 2), idOf(3, 2, 2), idOf(2, 1, 2), idOf(2, 3, 2), idOf(2, 2, 1), idOf(2, 2, 3)} {
		refuses(t, c, aborts("aaa", "k", other), api.CodeNoUpload)
		refuses(t, c, parts("aaa", "k", other, 1, idOf(0, 0, 1), "x"), api.CodeNoUpload)
		refuses(t, c, completes("aaa", "k", other, 1, 1), api.CodeNoUpload)
		d := on(t, c, starts("aaa", "k", other))
		holds(t, len(d.Buckets[0].Uploads) == 2, "uploads", uploads(d, "aaa"))
	}
}
