package shelf

import (
	"bollard/api"
	"bytes"
	"math"
	"slices"
	"testing"
)

// newShelf is a shelf that must not be refused.
func newShelf(t *testing.T, node int) *Shelf {
	t.Helper()
	s, err := New(node)
	if err != nil || s == nil {
		t.Fatal("New of", node, err)
	}
	return s
}

// id123 is the blob of the chapter's examples.
func id123() api.Id { return api.Id{Node: 1, Boot: 2, Seq: 3} }

// good asks that calls were taken.
func good(t *testing.T, errs ...error) {
	t.Helper()
	for i, err := range errs {
		if err != nil {
			t.Fatal("call", i, "is refused:", err)
		}
	}
}

// holds asks that the blob's frame is there.
func holds(t *testing.T, s *Shelf, blob api.Id, want []byte) {
	t.Helper()
	if f, err := s.Get(blob); err != nil || !bytes.Equal(f, want) || !s.Has(blob) {
		t.Fatalf("Get of %v: %x %v, and Has: %v, want %x", blob, f, err, s.Has(blob), want)
	}
}

// refuses asks that Get answers the error and nothing else, and Has false.
func refuses(t *testing.T, s *Shelf, blob api.Id, want error) {
	t.Helper()
	if f, err := s.Get(blob); len(f) > 0 || err != want || s.Has(blob) {
		t.Fatalf("Get of %v: %x %v, and Has: %v, want %v", blob, f, err, s.Has(blob), want)
	}
}

// lists asks that these are the blobs, in this order.
func lists(t *testing.T, s *Shelf, want ...api.Id) {
	t.Helper()
	if got := s.List(); !slices.Equal(got, want) {
		t.Fatalf("List: %v in the place of %v", got, want)
	}
}

// files asks that these are the names of the drive's files.
func files(t *testing.T, s *Shelf, want ...string) {
	t.Helper()
	if got := slices.Collect(s.Drive().List()); !slices.Equal(got, want) {
		t.Fatalf("files: %q in the place of %q", got, want)
	}
}

// lay writes a file on the shelf's drive, and makes it safe.
func lay(t *testing.T, s *Shelf, name string, b []byte) {
	t.Helper()
	good(t, s.Drive().Write(name, b), s.Drive().Sync(name))
}

// P8.1: a shelf for each node's number, empty; none for another.
func TestNew(t *testing.T) {
	for node := range api.MaxWidth {
		s := newShelf(t, node)
		lists(t, s)
		files(t, s)
		refuses(t, s, api.Id{}, api.ErrGone)
		if s.Sweep() != 0 || s.Delete(api.Id{}) != api.ErrGone || s.Drive().Lost() != 0 {
			t.Fatal("a new shelf has something")
		}
		lay(t, s, "a", nil)
		files(t, s, "a")
	}
	for _, node := range []int{-1, -2, -15, -16, api.MaxWidth, api.MaxWidth + 1, 255, 256, 1 << 32, math.MinInt, math.MaxInt} {
		if s, err := New(node); s != nil || err != api.ErrNumber {
			t.Errorf("New of %d: %v %v", node, s, err)
		}
	}
}

// P8.1: the chapter's examples.
func TestExamples(t *testing.T) {
	s := newShelf(t, 0)
	f := put(id123(), 0, 2, "ab")
	good(t, s.Put(f))
	files(t, s, "b-1-2-3")
	if err := s.Put(put(id123(), 1, 2, "ab")); err != api.ErrNumber {
		t.Error("Put of another shard:", err)
	}
	lay(t, s, "t-1-2-3", f)
	lay(t, s, "b-01-2-3", f)
	lay(t, s, "x", nil)
	if n := s.Sweep(); n != 3 {
		t.Error("Sweep:", n)
	}
	files(t, s, "b-1-2-3")
	holds(t, s, id123(), f)
	s.Drive().Flip(100)
	refuses(t, s, id123(), api.ErrLost)
	lists(t, s, id123())
}

// P8.1: Drive is the drive itself, always the same one, and no other shelf's.
func TestDrive(t *testing.T) {
	s, other := newShelf(t, 3), newShelf(t, 3)
	if s.Drive() != s.Drive() || s.Drive() == other.Drive() || s.Drive() == nil {
		t.Fatal("Drive isn't the shelf's drive itself")
	}
	f := put(id123(), 3, 0, "")
	lay(t, s, "b-1-2-3", f)
	holds(t, s, id123(), f)
	refuses(t, other, id123(), api.ErrGone)
	good(t, s.Drive().Delete("b-1-2-3"))
	refuses(t, s, id123(), api.ErrGone)
	good(t, s.Put(f))
	if b, err := s.Drive().Read("b-1-2-3"); err != nil || !bytes.Equal(b, f) {
		t.Errorf("what Put wrote: %x %v", b, err)
	}
}

// P8.1: Delete takes the blob's file away, whatever stands in it, and no other; what is gone stays gone behind a crash, and may be put again.
func TestDelete(t *testing.T) {
	s := newShelf(t, 0)
	f, other := put(id123(), 0, 2, "ab"), put(api.Id{Node: 1, Boot: 2, Seq: 4}, 0, 1, "c")
	good(t, s.Put(f), s.Put(other))
	lay(t, s, "t-1-2-3", f)
	good(t, s.Delete(id123()))
	refuses(t, s, id123(), api.ErrGone)
	files(t, s, "b-1-2-4", "t-1-2-3")
	if s.Delete(id123()) != api.ErrGone {
		t.Error("a blob that is deleted already")
	}
	s.Drive().Crash()
	refuses(t, s, id123(), api.ErrGone)
	holds(t, s, api.Id{Node: 1, Boot: 2, Seq: 4}, other)
	for _, b := range [][]byte{nil, {1}, other, f[:45]} {
		lay(t, s, "b-1-2-3", b)
		refuses(t, s, id123(), api.ErrLost)
		good(t, s.Delete(id123()))
		refuses(t, s, id123(), api.ErrGone)
	}
	good(t, s.Put(f))
	holds(t, s, id123(), f)
}

// P8.1: Delete works on a full drive and on one with MaxFiles files, and makes room there.
func TestDeleteFull(t *testing.T) {
	s := crowded(t, 0)
	f := put(api.Id{Seq: 5}, 0, 0, "")
	if s.Put(put(id123(), 0, 0, "")) != api.ErrFull {
		t.Fatal("a drive with MaxFiles files takes one more")
	}
	good(t, s.Delete(api.Id{Seq: 5}))
	good(t, s.Put(f))
	s.Drive().Fill(true)
	good(t, s.Delete(api.Id{Seq: 5}))
	refuses(t, s, api.Id{Seq: 5}, api.ErrGone)
	if s.Delete(api.Id{Seq: 5}) != api.ErrGone || s.Delete(api.Id{Seq: -5}) != api.ErrNumber {
		t.Error("Delete on a full drive")
	}
}

// P8.1: several shelves side by side: none is told what is done to another.
func TestManyShelves(t *testing.T) {
	a, b, c := newShelf(t, 0), newShelf(t, 0), newShelf(t, 1)
	f, g := put(id123(), 0, 2, "ab"), put(id123(), 1, 2, "cd")
	good(t, a.Put(f), c.Put(g))
	refuses(t, b, id123(), api.ErrGone)
	holds(t, c, id123(), g)
	a.Drive().Fill(true)
	good(t, b.Put(f))
	c.Drive().Flip(90)
	holds(t, a, id123(), f)
	refuses(t, c, id123(), api.ErrLost)
	lay(t, b, "x", nil)
	if a.Sweep() != 0 || c.Sweep() != 0 || b.Sweep() != 1 {
		t.Error("Sweep counts another shelf's files")
	}
	good(t, a.Delete(id123()))
	holds(t, b, id123(), f)
	b.Drive().Lose()
	refuses(t, b, id123(), api.ErrGone)
	lists(t, c, id123())
	if a.Put(g) != api.ErrNumber || c.Put(f) != api.ErrNumber {
		t.Error("a shelf takes another one's shard")
	}
}
