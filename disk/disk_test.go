package disk

import (
	"bollard/api"
	"bytes"
	"slices"
	"testing"
)

// good asks that a call was taken.
func good(t *testing.T, errs ...error) {
	t.Helper()
	for i, err := range errs {
		if err != nil {
			t.Fatal("call", i, "is refused:", err)
		}
	}
}

// reads asks that the file is there and has these bytes.
func reads(t *testing.T, d *Drive, name string, want ...byte) {
	t.Helper()
	if b, err := d.Read(name); err != nil || !bytes.Equal(b, want) {
		t.Fatalf("Read %q: %x %v in the place of %x", name, b, err, want)
	}
}

// gone asks that there is no such file, for any call that asks for one.
func gone(t *testing.T, d *Drive, name string) {
	t.Helper()
	b, err := d.Read(name)
	if len(b) > 0 || err != api.ErrGone || d.Sync(name) != api.ErrGone || d.Delete(name) != api.ErrGone || d.Rename(name, "other") != api.ErrGone || d.Rename(name, name) != api.ErrGone {
		t.Fatalf("a file that isn't there: %q %x %v", name, b, err)
	}
}

// lists asks that these are the names, in this order.
func lists(t *testing.T, d *Drive, want ...string) {
	t.Helper()
	if got := slices.Collect(d.List()); !slices.Equal(got, want) {
		t.Fatalf("List: %q in the place of %q", got, want)
	}
}

// P7.1: a new drive has no file, isn't full, and was never lost.
func TestNew(t *testing.T) {
	d := New()
	lists(t, d)
	gone(t, d, "a")
	if d.Lost() != 0 || d.Flip(0) {
		t.Error("a new drive:", d.Lost())
	}
	d.Crash()
	lists(t, d)
	good(t, d.Write("a", nil), d.Sync("a"))
	lists(t, d, "a")
	reads(t, d, "a")
}

// P7.1, P7.2: the chapter's examples.
func TestExamples(t *testing.T) {
	d := New()
	good(t, d.Write("a", []byte{1}))
	d.Crash()
	lists(t, d)
	good(t, d.Write("a", []byte{1}), d.Sync("a"), d.Write("a", []byte{2}))
	reads(t, d, "a", 2)
	d.Crash()
	reads(t, d, "a", 1)
	good(t, d.Write("t", []byte{3}), d.Sync("t"), d.Rename("t", "a"))
	reads(t, d, "a", 3)
	gone(t, d, "t")
	d.Crash()
	reads(t, d, "a", 3)
	lists(t, d, "a")
}

// P7.1: Write takes the place of all that was there, whether it is longer or shorter, and leaves other files.
func TestWriteOver(t *testing.T) {
	d := New()
	r := source()
	good(t, d.Write("b", []byte{7}))
	for range 200 {
		b := someBytes(r, r.IntN(3000))
		good(t, d.Write("a", b))
		reads(t, d, "a", b...)
	}
	good(t, d.Write("a", nil))
	reads(t, d, "a")
	reads(t, d, "b", 7)
	lists(t, d, "a", "b")
}

// P7.1: Delete takes the file away, and what was safe of it: a new one of its name begins with nothing.
func TestDelete(t *testing.T) {
	d := New()
	good(t, d.Write("a", []byte{1}), d.Sync("a"), d.Write("b", []byte{2}), d.Sync("b"), d.Delete("a"))
	gone(t, d, "a")
	lists(t, d, "b")
	d.Crash()
	gone(t, d, "a")
	good(t, d.Write("a", []byte{3}), d.Delete("a"), d.Write("a", []byte{4}))
	reads(t, d, "a", 4)
	d.Crash()
	gone(t, d, "a")
	reads(t, d, "b", 2)
}

// P7.1: Rename onto a file that is there: that file is gone, with what was safe of it.
func TestRenameOnto(t *testing.T) {
	d := New()
	good(t, d.Write("a", []byte{1}), d.Sync("a"), d.Write("b", []byte{2}), d.Rename("b", "a"))
	reads(t, d, "a", 2)
	lists(t, d, "a")
	d.Crash()
	lists(t, d)
	good(t, d.Write("a", []byte{1}), d.Write("b", []byte{2}), d.Sync("b"), d.Write("b", []byte{3}), d.Rename("b", "a"))
	reads(t, d, "a", 3)
	gone(t, d, "b")
	d.Crash()
	reads(t, d, "a", 2)
	lists(t, d, "a")
}

// P7.1: Rename onto itself changes nothing, and asks that the file is there.
func TestRenameOntoItself(t *testing.T) {
	d := New()
	if d.Rename("a", "a") != api.ErrGone {
		t.Error("a file that isn't there, renamed onto itself")
	}
	good(t, d.Write("a", []byte{1}), d.Rename("a", "a"))
	reads(t, d, "a", 1)
	d.Crash()
	gone(t, d, "a")
	good(t, d.Write("a", []byte{1}), d.Sync("a"), d.Write("a", []byte{2}), d.Rename("a", "a"))
	reads(t, d, "a", 2)
	d.Crash()
	reads(t, d, "a", 1)
	lists(t, d, "a")
}

// P7.1: Lose takes all files and fullness away, and is counted; crashes and the rest don't change the count.
func TestLose(t *testing.T) {
	d := New()
	for i := range 5 {
		good(t, d.Write("a", []byte{1}), d.Sync("a"), d.Write("b", []byte{2}))
		d.Fill(true)
		d.Lose()
		lists(t, d)
		gone(t, d, "a")
		gone(t, d, "b")
		if d.Lost() != i+1 || d.Flip(0) {
			t.Fatal("lost", i+1, "times:", d.Lost())
		}
		good(t, d.Write("a", []byte{3}))
		reads(t, d, "a", 3)
		d.Crash()
		lists(t, d)
		d.Fill(true)
		d.Fill(false)
		if d.Lost() != i+1 {
			t.Fatal("lost", i+1, "times, and then:", d.Lost())
		}
	}
	d.Lose()
	d.Lose()
	if d.Lost() != 7 {
		t.Error("an empty drive that is lost is lost once more:", d.Lost())
	}
}

// P7.1: several drives side by side: none is told what is done to another.
func TestManyDrives(t *testing.T) {
	a, b := New(), New()
	good(t, a.Write("x", []byte{1}), a.Sync("x"), b.Write("x", []byte{2}))
	a.Fill(true)
	good(t, b.Write("y", []byte{3}), b.Sync("y"))
	b.Crash()
	lists(t, a, "x")
	lists(t, b, "y")
	b.Flip(0)
	reads(t, a, "x", 1)
	a.Lose()
	reads(t, b, "y", 2)
	if a.Lost() != 1 || b.Lost() != 0 {
		t.Error("lost:", a.Lost(), b.Lost())
	}
	b.Fill(true)
	good(t, a.Write("z", nil), a.Rename("z", "y"), a.Delete("y"))
	if b.Write("y", nil) != api.ErrFull {
		t.Error("a full drive takes a file")
	}
	reads(t, b, "y", 2)
}
