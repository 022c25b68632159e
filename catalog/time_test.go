package catalog

import (
	"bollard/api"
	"testing"
)

// P11.1: Rule sets a bucket's Days, to 0 and more, and back, and nothing else.
func TestRule(t *testing.T) {
	c := full(t)
	for _, days := range []int{0, 1, 5, maxTime - 1, maxTime, 0} {
		c = comes(t, c, rules("aaa", days), api.CodeOK, "")
		want := normal(full(t))
		want.Buckets[0].Days = days
		holds(t, same(c, want), "Rule of", days, "makes", text(c))
	}
}

// P11.1: Expire just before, at and just behind Time and Days together.
func TestExpire(t *testing.T) {
	for _, time := range []int{0, 1, 7, maxTime} {
		for _, days := range []int{1, 2, 10, maxTime} {
			c := made(t, makes("aaa", maxTime), rules("aaa", days), puts("aaa", "k", idOf(0, 0, 1), "x", time))
			for _, now := range []int{0, time, time + days - 1, time + days, time + days + 1, maxTime} {
				if now > maxTime {
					continue
				}
				d := comes(t, c, expires(now), api.CodeOK, "")
				_, there := Object(d, "aaa", "k")
				holds(t, there == (now < time+days), "Expire at", now, "of an object of", time, "with Days", days, ":", there)
			}
		}
	}
}

// P11.1: with Days 0 nothing expires, whatever the time.
func TestDaysZero(t *testing.T) {
	c := made(t, makes("aaa", 0), puts("aaa", "k", idOf(0, 0, 1), "x", 0))
	for _, now := range []int{0, 1, maxTime} {
		holds(t, same(comes(t, c, expires(now), api.CodeOK, ""), c), "Expire with Days 0")
	}
	d := on(t, c, rules("aaa", 3), rules("aaa", 0), expires(maxTime))
	holds(t, same(c, d), "Expire with Days 0 again")
}

// P11.1: Expire over several buckets, each with its own Days: objects wherever they stand; those that were completed by their time too; uploads stay.
func TestExpireBuckets(t *testing.T) {
	c := made(t, makes("aaa", 0), makes("bbb", 0), makes("ccc", 0), makes("ddd", 0), rules("aaa", 10), rules("ccc", 4), rules("ddd", 1))
	for _, bucket := range []string{"aaa", "bbb", "ccc"} {
		for i, key := range []string{"a", "b", "c", "d", "e"} {
			c = on(t, c, puts(bucket, key, idOf(0, 0, i), key, []int{5, 9, 2, 6, 5}[i]))
		}
		c = on(t, c, starts(bucket, "u", idOf(1, 1, 1)), parts(bucket, "u", idOf(1, 1, 1), 1, idOf(0, 0, 0), "x"), starts(bucket, "f", idOf(0, 0, 0)))
		c = on(t, c, parts(bucket, "f", idOf(0, 0, 0), 1, idOf(1, 1, 1), "x"), completes(bucket, "f", idOf(0, 0, 0), 6, 1))
	}
	for _, one := range []struct {
		now      int
		aaa, ccc string
	}{
		{0, "a b c d e f", "a b c d e f"}, {5, "a b c d e f", "a b c d e f"}, {6, "a b c d e f", "a b d e f"}, {9, "a b c d e f", "b d f"},
		{10, "a b c d e f", "b"}, {11, "a b c d e f", "b"}, {12, "a b d e f", "b"}, {13, "a b d e f", ""}, {15, "b d f", ""}, {16, "b", ""}, {19, "", ""}, {maxTime, "", ""},
	} {
		d := comes(t, c, expires(one.now), api.CodeOK, "")
		holds(t, names(d) == "aaa bbb ccc ddd", "buckets", names(d))
		holds(t, keys(d, "aaa") == one.aaa && keys(d, "bbb") == "a b c d e f" && keys(d, "ccc") == one.ccc, "Expire at", one.now, "leaves", text(d))
		for i := range 3 {
			holds(t, uploads(d, d.Buckets[i].Name) == "1-1-1 u [1]", "Expire touches uploads:", text(d))
		}
	}
}

// P11.1: an object that was put again is as old as the newer one.
func TestExpirePutAgain(t *testing.T) {
	c := made(t, makes("aaa", 0), rules("aaa", 3), puts("aaa", "k", idOf(0, 0, 1), "x", 1), puts("aaa", "k", idOf(0, 0, 2), "x", 4), puts("aaa", "l", idOf(0, 0, 2), "x", 4), puts("aaa", "l", idOf(0, 0, 1), "x", 1))
	holds(t, keys(on(t, c, expires(4)), "aaa") == "k", "keys", keys(on(t, c, expires(4)), "aaa"))
}

// P11.1: Floor below, at and above the one that is there, in each of the Id's numbers, of one node and of another.
func TestFloors(t *testing.T) {
	c := comes(t, api.Catalog{}, floors(idOf(3, 5, 5)), api.CodeOK, "")
	for _, one := range []struct{ given, want api.Id }{
		{idOf(3, 5, 4), idOf(3, 5, 5)}, {idOf(3, 5, 5), idOf(3, 5, 5)}, {idOf(3, 5, 6), idOf(3, 5, 6)},
		{idOf(3, 4, 5), idOf(3, 5, 5)}, {idOf(3, 4, 9), idOf(3, 5, 5)}, {idOf(3, 6, 5), idOf(3, 6, 5)}, {idOf(3, 6, 0), idOf(3, 6, 0)},
		{idOf(3, 0, 0), idOf(3, 5, 5)}, {idOf(3, maxTime, maxTime), idOf(3, maxTime, maxTime)}, {idOf(3, 0, maxTime), idOf(3, 5, 5)}, {idOf(3, maxTime, 0), idOf(3, maxTime, 0)},
	} {
		d := comes(t, c, floors(one.given), api.CodeOK, "")
		holds(t, text(d.Floors) == text([]api.Id{one.want}), "Floor of", one.given, "makes", text(d.Floors))
	}
	for _, other := range []api.Id{idOf(2, 9, 9), idOf(2, 0, 0), idOf(2, 5, 5), idOf(0, 5, 4)} {
		d := comes(t, c, floors(other), api.CodeOK, "")
		holds(t, text(d.Floors) == text([]api.Id{other, idOf(3, 5, 5)}), "Floor of", other, "makes", text(d.Floors))
	}
	for _, other := range []api.Id{idOf(4, 0, 0), idOf(4, 9, 9), idOf(4, 5, 5), idOf(15, 5, 6)} {
		d := comes(t, c, floors(other), api.CodeOK, "")
		holds(t, text(d.Floors) == text([]api.Id{idOf(3, 5, 5), other}), "Floor of", other, "makes", text(d.Floors))
	}
}

// P11.1, P11.2: a floor of every node, each raised again; the buckets stay.
func TestAllFloors(t *testing.T) {
	c := full(t)
	for _, boot := range []int{1, 2, 0} {
		for n := range 16 {
			node := n * 7 % 16
			c = on(t, c, floors(idOf(node, boot, node)))
		}
	}
	holds(t, len(c.Floors) == 16, "floors:", text(c.Floors))
	for node, f := range c.Floors {
		holds(t, f == idOf(node, 2, node), "the floor of", node, "is", f)
	}
}
