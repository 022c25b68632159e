package disk

import (
	"bollard/api"
	"bytes"
	"slices"
	"testing"
	"unsafe"
)

// roomy is the list with spare room behind its length, filled with the byte.
func roomy(list []byte, fill byte) []byte {
	return append(bytes.Clone(list), bytes.Repeat([]byte{fill}, 80)...)[:len(list)]
}

func whole(list []byte) []byte { return list[:cap(list)] }

func overwrite(list []byte, fill byte) {
	for i := range whole(list) {
		whole(list)[i] = fill
	}
}

// clean asks that nothing is handed out behind a list's length.
func clean(t *testing.T, list []byte) {
	t.Helper()
	if behind := whole(list)[len(list):]; !bytes.Equal(behind, make([]byte, len(behind))) {
		t.Fatal("something is handed out behind an answer")
	}
}

// Rule 4: Write changes nothing of what it is handed, reads nothing behind it, and keeps none of it.
func TestWriteMemory(t *testing.T) {
	for _, size := range []int{0, 1, 5, 31, 32, 33, 1000} {
		b := someBytes(source(), size)
		list := roomy(b, 7)
		before := bytes.Clone(whole(list))
		d := New()
		good(t, d.Write("a", list), d.Sync("a"), d.Write("b", list))
		d.Fill(true)
		if d.Write("c", list) != api.ErrFull || d.Write("", list) != api.ErrName {
			t.Fatal("a Write that is to be refused")
		}
		d.Fill(false)
		if !bytes.Equal(whole(list), before) {
			t.Fatal("Write changes what it is handed")
		}
		overwrite(list, 9)
		reads(t, d, "a", b...)
		reads(t, d, "b", b...)
		d.Flip(0)
		d.Crash()
		if !bytes.Equal(whole(list), bytes.Repeat([]byte{9}, cap(list))) {
			t.Fatal("the drive changes what Write was handed")
		}
	}
}

// Rule 4: what Read answers shares memory with nothing: not with the file, not with what is safe of it, not with another answer.
func TestReadMemory(t *testing.T) {
	for _, size := range []int{0, 1, 5, 31, 32, 33, 1000} {
		b := someBytes(source(), size)
		d := New()
		good(t, d.Write("a", b), d.Sync("a"), d.Rename("a", "b"))
		first, _ := d.Read("b")
		second, _ := d.Read("b")
		clean(t, first)
		overwrite(first, 8)
		if !bytes.Equal(second, b) {
			t.Fatal("two answers of Read share memory")
		}
		reads(t, d, "b", b...)
		d.Crash()
		reads(t, d, "b", b...)
		third, _ := d.Read("b")
		overwrite(third, 9)
		d.Crash()
		reads(t, d, "b", b...)
		fourth, _ := d.Read("b")
		d.Flip(3)
		good(t, d.Write("b", []byte{1}))
		d.Lose()
		if !bytes.Equal(fourth, b) || !bytes.Equal(second, b) {
			t.Fatal("what is done to a drive changes what Read answered")
		}
	}
}

// Rule 4: what is safe and what isn't are not one memory: a bit that is turned in one file is turned in no other, and not in what is read.
func TestSafeMemory(t *testing.T) {
	d := New()
	b := []byte{1, 2, 3}
	good(t, d.Write("a", b), d.Sync("a"), d.Write("b", b), d.Sync("b"))
	read, _ := d.Read("a")
	d.Flip(0)
	reads(t, d, "a", 0, 2, 3)
	reads(t, d, "b", 1, 2, 3)
	if !bytes.Equal(read, b) || !bytes.Equal(b, []byte{1, 2, 3}) {
		t.Error("a turned bit is seen outside of the drive")
	}
	good(t, d.Write("a", []byte{7}))
	d.Crash()
	reads(t, d, "a", 0, 2, 3)
}

// changing is a name whose bytes change afterwards, as no text of the language does: what was kept of it would change too.
func changing(name string) (string, func()) {
	b := []byte(name)
	return unsafe.String(&b[0], len(b)), func() { overwrite(b, '#') }
}

// Rule 4: names are not kept either, and those that List answers are not those that were handed in.
func TestNameMemory(t *testing.T) {
	d := New()
	var all []func()
	handed := func(name string) string {
		text, change := changing(name)
		all = append(all, change)
		return text
	}
	good(t, d.Write(handed("first"), []byte{1}), d.Write(handed("first"), []byte{2}), d.Sync(handed("first")))
	good(t, d.Write(handed("other"), []byte{3}), d.Sync(handed("other")), d.Rename(handed("other"), handed("third")), d.Rename(handed("third"), handed("third")))
	names := slices.Collect(d.List())
	for _, change := range all {
		change()
	}
	if !slices.Equal(names, []string{"first", "third"}) {
		t.Errorf("names that were answered change: %q", names)
	}
	lists(t, d, "first", "third")
	reads(t, d, "first", 2)
	reads(t, d, "third", 3)
	d.Crash()
	reads(t, d, "first", 2)
	reads(t, d, "third", 3)
	lists(t, d, "first", "third")
}
