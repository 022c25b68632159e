package shelf

import (
	"bollard/api"
	"fmt"
	"math"
	"slices"
	"testing"
)

// nodeEdges are numbers on both sides of the least and the greatest that a node may have.
func nodeEdges() []int {
	return []int{math.MinInt, -api.MaxWidth, -1, 0, 1, 2, 9, 10, api.MaxWidth - 2, api.MaxWidth - 1, api.MaxWidth, api.MaxWidth + 1, 100, math.MaxInt}
}

// timeEdges are numbers on both sides of the least and the greatest that a boot or a seq may be.
func timeEdges() []int {
	return []int{math.MinInt, -api.MaxTime, -1, 0, 1, 9, 10, 1 << 31, 1 << 32, api.MaxTime - 1, api.MaxTime, api.MaxTime + 1, 10 * api.MaxTime, math.MaxInt}
}

// edgeIds are the ids of all these numbers.
func edgeIds() []api.Id {
	var out []api.Id
	for _, node := range nodeEdges() {
		for _, boot := range timeEdges() {
			for _, seq := range timeEdges() {
				out = append(out, api.Id{Node: node, Boot: boot, Seq: seq})
			}
		}
	}
	return out
}

// P8.1: Get, Has and Delete of a blob that is not there: ErrNumber if it is no good id, else ErrGone; on drives of every kind.
func TestIdsNotThere(t *testing.T) {
	shelves := []*Shelf{newShelf(t, 0), newShelf(t, 15), newShelf(t, 0), crowded(t, 0)}
	shelves[1].Drive().Lose()
	shelves[2].Drive().Fill(true)
	shelves[3].Drive().Fill(true)
	good(t, shelves[3].Drive().Rename("b-0-0-0", "n0"), shelves[3].Drive().Rename("b-0-0-1", "n1"), shelves[3].Drive().Rename("b-0-0-9", "n9"), shelves[3].Drive().Rename("b-0-0-10", "n10"))
	for i, s := range shelves {
		before := told(t, s, nil)
		for _, blob := range edgeIds() {
			want := api.ErrGone
			if !plainGood(blob) {
				want = api.ErrNumber
			}
			refuses(t, s, blob, want)
			if err := s.Delete(blob); err != want {
				t.Fatal("Delete of", blob, err, "want", want)
			}
		}
		if told(t, s, nil) != before {
			t.Error("shelf", i, "is changed by calls that are refused")
		}
	}
}

// P8.1: an id that isn't good is ErrNumber also where a file is called as if it were, which isn't listed but swept.
func TestBadIdsThere(t *testing.T) {
	for _, blob := range edgeIds() {
		name := plainName("b", blob)
		if plainGood(blob) || len(name) > api.MaxName {
			continue
		}
		s := newShelf(t, 0)
		lay(t, s, name, put(id123(), 0, 2, "ab"))
		refuses(t, s, blob, api.ErrNumber)
		if err := s.Delete(blob); err != api.ErrNumber {
			t.Fatal("Delete of", blob, err)
		}
		lists(t, s)
		files(t, s, name)
		if n := s.Sweep(); n != 1 {
			t.Fatal("Sweep with", name, n)
		}
		files(t, s)
	}
}

// P8.1, P8.2: every good id is put, listed, found behind a crash and deleted, under just the name that the chapter says.
func TestGoodIds(t *testing.T) {
	r := source()
	all := slices.DeleteFunc(edgeIds(), func(blob api.Id) bool { return !plainGood(blob) })
	for range 300 {
		all = append(all, api.Id{Node: r.IntN(16), Boot: r.IntN(api.MaxTime + 1), Seq: r.IntN(api.MaxTime + 1)})
	}
	for i, blob := range all {
		s := newShelf(t, i%16)
		f := put(blob, i%16, i%1025, "bytes"+fmt.Sprint(i))
		good(t, s.Put(f))
		files(t, s, plainName("b", blob))
		lists(t, s, blob)
		holds(t, s, blob, f)
		s.Drive().Crash()
		holds(t, s, blob, f)
		lists(t, s, blob)
		if s.Sweep() != 0 {
			t.Fatal("a blob is swept:", blob)
		}
		good(t, s.Delete(blob))
		files(t, s)
		refuses(t, s, blob, api.ErrGone)
	}
}

// P8.1: ids that are nearly the same are not the same blob.
func TestAlikeIds(t *testing.T) {
	s := newShelf(t, 2)
	var all []api.Id
	var frames [][]byte
	for _, n := range []int{1, 2, 11, 12} {
		for _, boot := range []int{1, 2, 11, 111} {
			for _, seq := range []int{0, 1, 11, 110} {
				all = append(all, api.Id{Node: n, Boot: boot, Seq: seq})
				frames = append(frames, put(api.Id{Node: n, Boot: boot, Seq: seq}, 2, 2, fmt.Sprint(len(all))))
			}
		}
	}
	for _, f := range frames {
		good(t, s.Put(f))
	}
	for i, blob := range all {
		holds(t, s, blob, frames[i])
	}
	lists(t, s, all...)
	for i, blob := range all {
		good(t, s.Delete(blob))
		lists(t, s, all[i+1:]...)
	}
}

// P8.1: Compare of all pairs of ids, good or not: by Node, then Boot, then Seq.
func TestCompare(t *testing.T) {
	numbers := []int{math.MinInt, -1, 0, 1, 9, 10, 15, 16, api.MaxTime, api.MaxTime + 1, math.MaxInt}
	var all []api.Id
	for _, node := range numbers {
		for _, boot := range numbers {
			for _, seq := range numbers {
				all = append(all, api.Id{Node: node, Boot: boot, Seq: seq})
			}
		}
	}
	// They were made in the order in which they rise.
	for i, a := range all {
		for j, b := range all {
			want := 0
			if i < j {
				want = -1
			} else if i > j {
				want = 1
			}
			if got := Compare(a, b); got != want {
				t.Fatal("Compare of", a, b, got)
			}
		}
	}
}
