package disk

import (
	"bytes"
	"testing"
)

// P7.2: what was synced is there behind crashes, with the name that it was given last.
func TestSyncedStays(t *testing.T) {
	r := source()
	for _, size := range []int{0, 1, 2, 32, 1000, 70000} {
		b := someBytes(r, size)
		d := New()
		good(t, d.Write("a", b), d.Sync("a"))
		for range 3 {
			d.Crash()
			reads(t, d, "a", b...)
		}
		good(t, d.Rename("a", "b"), d.Rename("b", "c"))
		d.Crash()
		lists(t, d, "c")
		reads(t, d, "c", b...)
	}
}

// P7.2: what wasn't synced is as it was synced last, or gone, whatever its name was then.
func TestUnsyncedGoes(t *testing.T) {
	d := New()
	good(t, d.Write("a", []byte{1}), d.Rename("a", "b"))
	d.Crash()
	lists(t, d)
	good(t, d.Write("a", []byte{1}), d.Sync("a"), d.Rename("a", "b"), d.Write("b", []byte{2}), d.Write("a", []byte{3}))
	d.Crash()
	lists(t, d, "b")
	reads(t, d, "b", 1)
	good(t, d.Write("b", []byte{4}), d.Sync("b"), d.Write("b", []byte{5}), d.Sync("b"), d.Write("b", []byte{6}), d.Rename("b", "a"))
	d.Crash()
	lists(t, d, "a")
	reads(t, d, "a", 5)
}

// P7.2: no bytes may be safe too: a file that was synced without any is there without any.
func TestSyncedEmpty(t *testing.T) {
	d := New()
	good(t, d.Write("a", nil), d.Sync("a"), d.Write("a", []byte{1}), d.Write("b", nil))
	d.Crash()
	lists(t, d, "a")
	reads(t, d, "a")
	good(t, d.Write("a", []byte{1}), d.Sync("a"), d.Write("a", []byte{}), d.Sync("a"), d.Write("a", []byte{2}))
	d.Crash()
	reads(t, d, "a")
}

// P7.2: a crash makes nothing safe that wasn't, and forgets nothing that was: what is written behind it goes by the next.
func TestCrashAgain(t *testing.T) {
	d := New()
	good(t, d.Write("a", []byte{1}), d.Sync("a"), d.Write("a", []byte{2}))
	for range 3 {
		d.Crash()
		reads(t, d, "a", 1)
		good(t, d.Write("a", []byte{3}), d.Write("b", []byte{4}))
		reads(t, d, "a", 3)
		reads(t, d, "b", 4)
	}
	d.Crash()
	lists(t, d, "a")
}

// P7.2: a deleted name stays so, and a name that was renamed away too.
func TestNamesAreSafe(t *testing.T) {
	d := New()
	good(t, d.Write("a", []byte{1}), d.Sync("a"), d.Write("b", []byte{2}), d.Sync("b"), d.Delete("a"), d.Rename("b", "a"))
	d.Crash()
	lists(t, d, "a")
	reads(t, d, "a", 2)
	good(t, d.Delete("a"))
	d.Crash()
	lists(t, d)
}

// replace are the calls by which a file is written aside and takes the place of another; each is one moment at which power may fail.
func replace(d *Drive, b []byte) []func() error {
	return []func() error{
		func() error { return d.Write("t", b[:len(b)/2]) },
		func() error { return d.Write("t", b) },
		func() error { return d.Sync("t") },
		func() error { return d.Rename("t", "a") },
	}
}

// P7.3: written under another name, synced and renamed: a crash at any time leaves the old file or the new one, whole.
func TestReplace(t *testing.T) {
	r := source()
	for _, size := range []int{0, 1, 32, 500} {
		for _, other := range []int{1, 33, 400} {
			before, after := someBytes(r, size), someBytes(r, other)
			for stop := range 5 {
				d := New()
				good(t, d.Write("a", before), d.Sync("a"))
				for _, call := range replace(d, after)[:stop] {
					good(t, call())
				}
				d.Crash()
				want := before
				if stop == 4 {
					want = after
				}
				reads(t, d, "a", want...)
			}
		}
	}
}

// P7.3: where there was no old file, there is none or the new one, whole; and a second try behind a crash leads to the same.
func TestReplaceNone(t *testing.T) {
	after := someBytes(source(), 100)
	for stop := range 5 {
		d := New()
		for _, call := range replace(d, after)[:stop] {
			good(t, call())
		}
		d.Crash()
		if b, err := d.Read("a"); (err == nil) != (stop == 4) || err == nil && !bytes.Equal(b, after) {
			t.Fatal("stopped at", stop, err)
		}
		for _, call := range replace(d, after) {
			good(t, call())
		}
		d.Crash()
		lists(t, d, "a")
		reads(t, d, "a", after...)
	}
}

// P7.3: a drive that is full from some time on leaves the old file or the new one, whole.
func TestReplaceFull(t *testing.T) {
	before, after := []byte{1, 2}, []byte{3, 4, 5}
	for from := range 5 {
		d := New()
		good(t, d.Write("a", before), d.Sync("a"))
		var err error
		for i, call := range replace(d, after) {
			d.Fill(i >= from)
			if err == nil {
				err = call()
			}
		}
		d.Crash()
		want := before
		if from > 2 {
			want = after
		}
		reads(t, d, "a", want...)
	}
}
