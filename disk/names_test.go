package disk

import (
	"bollard/api"
	"strings"
	"testing"
)

// badNames are names that no file may have.
func badNames() []string {
	long := strings.Repeat("a", api.MaxName)
	out := []string{"", long + "a", long + long, strings.Repeat("~", 100000), strings.Repeat("é", 20), "a b", "a\nb", "\xff", "a\xc3", "世", strings.Repeat("世", 21)}
	for _, b := range otherBytes() {
		one := string([]byte{b})
		out = append(out, one, one+"a", "a"+one, "a"+one+"b", long[1:]+one, one+long[1:], long[:30]+one+long[:32])
	}
	return out
}

// otherBytes are the bytes that no name has.
func otherBytes() []byte {
	var out []byte
	for i := range 256 {
		if i < 33 || i > 126 {
			out = append(out, byte(i))
		}
	}
	return out
}

// goodNames are names that a file may have: of one byte, of two, of as many as may be, of each byte.
func goodNames() []string {
	out := []string{"%d", "../a", "a/b", ".", "\\", "\"", "!~"}
	for i := 33; i <= 126; i++ {
		one := string([]byte{byte(i)})
		out = append(out, one, one+"a", strings.Repeat(one, 62), strings.Repeat(one, 63))
	}
	return out
}

// refusesName asks that every call refuses the name with ErrName.
func refusesName(t *testing.T, d *Drive, name string) {
	t.Helper()
	b, err := d.Read(name)
	if len(b) > 0 || err != api.ErrName {
		t.Fatalf("Read %q: %x %v", name, b, err)
	}
	errs := []error{d.Write(name, []byte{9}), d.Write(name, nil), d.Sync(name), d.Delete(name), d.Rename(name, name), d.Rename(name, "a"), d.Rename("a", name), d.Rename(name, "none"), d.Rename("none", name)}
	for i, err := range errs {
		if err != api.ErrName {
			t.Fatalf("call %d with %q: %v", i, name, err)
		}
	}
}

// P7.1: names that no file may have are refused by every call, on drives of every kind, ahead of every other error.
func TestBadNames(t *testing.T) {
	drives := []*Drive{New(), New(), New(), crowded(t), crowded(t)}
	good(t, drives[1].Write("a", []byte{1}), drives[1].Sync("a"), drives[2].Write("a", []byte{1}))
	drives[2].Fill(true)
	drives[4].Fill(true)
	drives = append(drives, New())
	drives[5].Lose()
	for i, d := range drives {
		before := told(t, d)
		for _, name := range badNames() {
			refusesName(t, d, name)
		}
		if told(t, d) != before {
			t.Error("names that are refused change drive", i)
		}
	}
}

// P7.1: every byte from 33 to 126 may stand in a name, and 1 to MaxName of them.
func TestGoodNames(t *testing.T) {
	for i, name := range goodNames() {
		d := New()
		gone(t, d, name)
		good(t, d.Write(name, []byte{byte(i)}), d.Sync(name))
		reads(t, d, name, byte(i))
		lists(t, d, name)
		other := "a" + name[1:]
		good(t, d.Rename(name, other))
		reads(t, d, other, byte(i))
		good(t, d.Rename(other, name))
		d.Crash()
		reads(t, d, name, byte(i))
		good(t, d.Delete(name))
		gone(t, d, name)
		lists(t, d)
	}
}

// P7.1: names that begin alike, or differ in letters' sizes, are different files.
func TestAlikeNames(t *testing.T) {
	long := strings.Repeat("n", 62)
	names := []string{"a", "A", "aa", "aA", "a!", "a~", "a.", "./a", "a/", "b-1-2-3", "b-1-2-30", "b-01-2-3", "t-1-2-3", long, long + "n", long + "m"}
	d := New()
	for i, name := range names {
		good(t, d.Write(name, []byte{byte(i)}))
	}
	for i, name := range names {
		reads(t, d, name, byte(i))
		if i%2 == 0 {
			good(t, d.Sync(name))
		}
	}
	d.Crash()
	for i, name := range names {
		if i%2 == 0 {
			reads(t, d, name, byte(i))
		} else {
			gone(t, d, name)
		}
	}
}
