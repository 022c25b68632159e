package disk

import (
	"iter"
	"slices"
	"sort"
	"testing"
)

// goesOver asks that an iterator gives these names.
func goesOver(t *testing.T, names iter.Seq[string], want ...string) {
	t.Helper()
	if got := slices.Collect(names); !slices.Equal(got, want) {
		t.Fatalf("gone over: %q in the place of %q", got, want)
	}
}

// P7.1: names rise byte by byte, in whatever order they came.
func TestListRises(t *testing.T) {
	names := append(goodNames(), "b-1-2-3", "b-10-2-3", "b-2-2-3", "t-0-0-0", "A", "a", "aa", "aB", "Z")
	slices.Sort(names)
	names = slices.Compact(names)
	r := source()
	for range 30 {
		order := slices.Clone(names)
		r.Shuffle(len(order), func(i, j int) { order[i], order[j] = order[j], order[i] })
		order = order[:r.IntN(len(order))]
		d := New()
		for _, name := range order {
			good(t, d.Write(name, nil))
		}
		sort.Strings(order)
		for range 3 {
			lists(t, d, order...)
		}
	}
}

// P7.1: while nothing is there, nothing is gone over: on a new drive, a lost one, one whose files are deleted or gone by a crash.
func TestListNone(t *testing.T) {
	d := New()
	goesOver(t, d.List())
	good(t, d.Write("a", nil), d.Delete("a"))
	goesOver(t, d.List())
	good(t, d.Write("a", nil))
	d.Crash()
	goesOver(t, d.List())
	good(t, d.Write("a", nil), d.Sync("a"))
	d.Lose()
	goesOver(t, d.List())
}

// Rule 9: List goes over the names that were there when it was called, as often as it is gone over.
func TestListKeeps(t *testing.T) {
	d := New()
	none := d.List()
	good(t, d.Write("b", nil), d.Write("a", nil), d.Sync("a"))
	two := d.List()
	changes := []func(){
		func() { good(t, d.Write("c", nil)) },
		func() { good(t, d.Rename("a", "z")) },
		func() { good(t, d.Delete("b")) },
		func() { d.Crash() },
		func() { d.Fill(true) },
		func() { d.Lose() },
		func() { good(t, d.Write("a", nil)) },
	}
	for _, change := range changes {
		change()
		goesOver(t, none)
		goesOver(t, two, "a", "b")
		goesOver(t, two, "a", "b")
	}
	lists(t, d, "a")
}

// Rule 9: one that is left early gives no more, and begins anew.
func TestListLeft(t *testing.T) {
	d := New()
	want := []string{"a", "b", "c", "d"}
	for _, name := range want {
		good(t, d.Write(name, nil))
	}
	names := d.List()
	for stop := range want {
		seen := 0
		names(func(name string) bool {
			if seen > stop || name != want[seen] {
				t.Fatal("left at", stop, "and gone on with", name)
			}
			seen++
			return seen <= stop
		})
		if seen != stop+1 {
			t.Error("left at", stop, "behind", seen, "names")
		}
		goesOver(t, names, want...)
	}
}

// Rule 9: the drive may be changed while its names are gone over, and they may be gone over within that.
func TestListWithin(t *testing.T) {
	d := New()
	want := []string{"a", "b", "c"}
	for _, name := range want {
		good(t, d.Write(name, nil))
	}
	names := d.List()
	var seen []string
	for name := range names {
		goesOver(t, names, want...)
		seen = append(seen, name)
		good(t, d.Delete(name), d.Write("n"+name, nil))
	}
	if !slices.Equal(seen, want) {
		t.Error("gone over:", seen)
	}
	lists(t, d, "na", "nb", "nc")
}
