package shelf

import (
	"bollard/api"
	"fmt"
	"slices"
	"strings"
	"testing"
)

// nearNames are names that no good id's file has, though most nearly are one.
func nearNames() []string {
	out := []string{
		"x", "b", "b-", "b--", "b---", "b-1", "b-1-2", "b-1-2-", "b--2-3", "b-1--3", "b-1-2-3-", "b-1-2-3-4", "-b-1-2-3", "b--1-2-3", "-1-2-3", "1-2-3", "b1-2-3", "b-12-3", "b-1-23-", "b-1-2-3.", "bb-1-2-3", "B-1-2-3", "c-1-2-3", "t-1-2-3", "t-0-0-0", "T-1-2-3", "b_1_2_3", "b-1-2_3", "b+1+2+3", "b-1-2,3", "b/1/2/3", "\"b-1-2-3\"", "b-1-2-3~", "!b-1-2-3",
		"b-16-0-0", "b-17-2-3", "b-150-2-3", "b-0-1099511627777-0", "b-0-0-1099511627777", "b-0-10995116277760-0", "b-0-0-9223372036854775807", "b-0-0-9223372036854775808", "b-0-9223372036854775808-0", "b-9223372036854775808-0-0", "b-0-0-18446744073709551616", "b-0-0-18446744073709551617", "b-18446744073709551617-2-3", "b-1-18446744073709551618-3", "b-1-2-4294967299x",
	}
	for _, odd := range []string{"", "01", "00", "001", "+1", "+0", "-1", "-0", "1.", "1.0", ".1", "1e0", "0x1", "0b1", "0o1", "1_0", "1'0", "a", "one", "1a", "a1", "~1", "!", "/", ":", "1,", "(1)", strings.Repeat("0", 40) + "1", strings.Repeat("9", 50)} {
		out = append(out, "b-"+odd+"-2-3", "b-1-"+odd+"-3", "b-1-2-"+odd, "t-1-2-"+odd)
	}
	slices.Sort(out)
	return slices.Compact(out)
}

// P8.1: files whose names are no good id's are not listed, and are swept, each by itself and all at once.
func TestNearNames(t *testing.T) {
	f := put(id123(), 0, 2, "ab")
	all := newShelf(t, 0)
	good(t, all.Put(f))
	for _, name := range nearNames() {
		s := newShelf(t, 0)
		lay(t, s, name, f)
		lists(t, s)
		refuses(t, s, id123(), api.ErrGone)
		if s.Delete(id123()) != api.ErrGone {
			t.Fatal("Delete where there is", name)
		}
		files(t, s, name)
		if n := s.Sweep(); n != 1 {
			t.Fatalf("Sweep with %q: %d", name, n)
		}
		files(t, s)
		lay(t, all, name, nil)
	}
	lists(t, all, id123())
	holds(t, all, id123(), f)
	if n := all.Sweep(); n != len(nearNames()) {
		t.Error("Sweep:", n, "of", len(nearNames()))
	}
	files(t, all, "b-1-2-3")
	holds(t, all, id123(), f)
	if all.Sweep() != 0 {
		t.Error("a second Sweep has something")
	}
}

// P8.1: a good id's file is listed and kept by Sweep, whatever stands in it, safe or not.
func TestListWhatever(t *testing.T) {
	s := newShelf(t, 0)
	lay(t, s, "b-0-0-0", nil)
	lay(t, s, "b-15-1099511627776-1099511627776", []byte("no frame"))
	lay(t, s, "b-7-0-1", put(id123(), 0, 0, ""))
	lay(t, s, "b-7-1-0", put(api.Id{Node: 7, Boot: 1}, 1, 0, ""))
	good(t, s.Drive().Write("b-2-0-0", []byte{1}))
	last := api.Id{Node: 15, Boot: api.MaxTime, Seq: api.MaxTime}
	lists(t, s, api.Id{}, api.Id{Node: 2}, api.Id{Node: 7, Seq: 1}, api.Id{Node: 7, Boot: 1}, last)
	if s.Sweep() != 0 {
		t.Error("a good id's file is swept")
	}
	s.Drive().Crash()
	lists(t, s, api.Id{}, api.Id{Node: 7, Seq: 1}, api.Id{Node: 7, Boot: 1}, last)
	for _, blob := range s.List() {
		refuses(t, s, blob, api.ErrLost)
	}
	s.Drive().Lose()
	lists(t, s)
}

// P8.1: List rises by Node, then Boot, then Seq, as numbers and not as texts, in whatever order the blobs were put.
func TestListOrder(t *testing.T) {
	r := source()
	var all []api.Id
	for _, node := range []int{0, 1, 2, 9, 10, 15} {
		for _, boot := range []int{0, 2, 9, 10, 99, 100, api.MaxTime} {
			for _, seq := range []int{0, 1, 9, 10, 1000, api.MaxTime - 1, api.MaxTime} {
				all = append(all, api.Id{Node: node, Boot: boot, Seq: seq})
			}
		}
	}
	for range 20 {
		s := newShelf(t, 4)
		for _, i := range r.Perm(len(all)) {
			good(t, s.Put(put(all[i], 4, 0, "")))
		}
		lists(t, s, all...)
		some := slices.Clone(all)
		for range 100 {
			at := r.IntN(len(some))
			good(t, s.Delete(some[at]))
			some = slices.Delete(some, at, at+1)
		}
		lists(t, s, some...)
	}
}

// P8.1: Sweep works on a full drive and on one with MaxFiles files, also if all of them are swept.
func TestSweepFull(t *testing.T) {
	s := newShelf(t, 0)
	for i := range api.MaxFiles {
		good(t, s.Drive().Write(fmt.Sprint("t-0-0-", i), nil))
	}
	if s.Put(put(id123(), 0, 0, "")) != api.ErrFull {
		t.Fatal("a drive with MaxFiles files takes one more")
	}
	s.Drive().Fill(true)
	if n := s.Sweep(); n != api.MaxFiles {
		t.Error("Sweep:", n)
	}
	files(t, s)
	if s.Put(put(id123(), 0, 0, "")) != api.ErrFull {
		t.Error("Sweep makes a full drive take files")
	}
	s = crowded(t, 0)
	good(t, s.Drive().Rename("b-0-0-7", "t-0-0-7"), s.Drive().Rename("b-0-0-8", "y"))
	if n := s.Sweep(); n != 2 || len(s.List()) != api.MaxFiles-2 {
		t.Error("Sweep:", n, "of a crowded drive")
	}
	good(t, s.Put(put(id123(), 0, 0, "")), s.Put(put(api.Id{Node: 9}, 0, 0, "")))
	if s.Put(put(api.Id{Node: 8}, 0, 0, "")) != api.ErrFull {
		t.Error("a drive with MaxFiles files takes one more")
	}
}

// P8.1: a swept file is gone for good, whether it was safe or not.
func TestSweepCrash(t *testing.T) {
	s := newShelf(t, 0)
	f := put(id123(), 0, 2, "ab")
	good(t, s.Put(f))
	lay(t, s, "t-1-2-3", f)
	good(t, s.Drive().Write("t-1-2-3", []byte{1}), s.Drive().Write("y", nil))
	if n := s.Sweep(); n != 2 {
		t.Error("Sweep:", n)
	}
	s.Drive().Crash()
	files(t, s, "b-1-2-3")
	holds(t, s, id123(), f)
}
