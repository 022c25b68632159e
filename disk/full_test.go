package disk

import (
	"bollard/api"
	"strconv"
	"testing"
)

// crowding are the calls by which a drive has MaxFiles files, "0" to "511", of which those with an even number are safe.
func crowding() []step {
	var out []step
	for i := range api.MaxFiles {
		name := strconv.Itoa(i)
		out = append(out, step{call: "Write", name: name, bytes: []byte{byte(i)}})
		if i%2 == 0 {
			out = append(out, step{call: "Sync", name: name})
		}
	}
	return out
}

// crowded is such a drive.
func crowded(t *testing.T) *Drive {
	t.Helper()
	p := newPair()
	for _, s := range crowding() {
		p.do(t, s)
	}
	return p.drive
}

// refusesFull asks that a Write is refused, and changes nothing.
func refusesFull(t *testing.T, d *Drive, name string) {
	t.Helper()
	before := told(t, d)
	if err := d.Write(name, []byte{9, 9}); err != api.ErrFull {
		t.Fatalf("Write of %q: %v", name, err)
	}
	if err := d.Write(name, nil); err != api.ErrFull || told(t, d) != before {
		t.Fatalf("Write of %q: %v, or the drive is changed", name, err)
	}
}

// P7.1: a full drive takes no Write, of a file that is there or of another, and no Sync; what is asked besides is answered as ever.
func TestFull(t *testing.T) {
	d := New()
	good(t, d.Write("a", []byte{1}), d.Sync("a"), d.Write("a", []byte{2}), d.Write("b", []byte{3}))
	d.Fill(true)
	d.Fill(true)
	refusesFull(t, d, "a")
	refusesFull(t, d, "c")
	if d.Sync("a") != api.ErrFull || d.Sync("b") != api.ErrFull {
		t.Error("a full drive syncs")
	}
	gone(t, d, "c")
	reads(t, d, "a", 2)
	lists(t, d, "a", "b")
	good(t, d.Rename("b", "c"), d.Rename("c", "c"))
	lists(t, d, "a", "c")
	d.Crash()
	lists(t, d, "a")
	reads(t, d, "a", 1)
	refusesFull(t, d, "a")
	if !d.Flip(0) {
		t.Error("a full drive has bits that turn")
	}
	reads(t, d, "a", 0)
	good(t, d.Delete("a"))
	refusesFull(t, d, "a")
	d.Fill(false)
	good(t, d.Write("a", []byte{5}), d.Sync("a"))
	d.Crash()
	reads(t, d, "a", 5)
}

// P7.1: a full drive: a Sync that is refused makes nothing safe.
func TestFullSync(t *testing.T) {
	d := New()
	good(t, d.Write("a", []byte{1}), d.Sync("a"), d.Write("a", []byte{2}), d.Write("b", []byte{3}))
	d.Fill(true)
	if d.Sync("a") != api.ErrFull || d.Sync("b") != api.ErrFull {
		t.Error("a full drive syncs")
	}
	d.Fill(false)
	d.Crash()
	reads(t, d, "a", 1)
	lists(t, d, "a")
}

// P7.1: a drive that isn't full is told once more that it isn't.
func TestFillFalse(t *testing.T) {
	d := New()
	d.Fill(false)
	good(t, d.Write("a", []byte{1}), d.Sync("a"))
	d.Fill(true)
	d.Fill(true)
	d.Fill(false)
	good(t, d.Write("a", []byte{2}), d.Write("b", nil), d.Sync("a"))
	d.Fill(true)
	d.Lose()
	good(t, d.Write("a", []byte{2}), d.Sync("a"))
}

// P7.1: MaxFiles files are taken, and one more isn't, while those that are there may be written, synced and renamed.
func TestMaxFiles(t *testing.T) {
	d := crowded(t)
	refusesFull(t, d, "a")
	refusesFull(t, d, "512")
	for i := range api.MaxFiles {
		name := strconv.Itoa(i)
		good(t, d.Write(name, []byte{1, byte(i)}), d.Sync(name))
		reads(t, d, name, 1, byte(i))
	}
	refusesFull(t, d, "a")
	good(t, d.Rename("0", "a"))
	refusesFull(t, d, "0")
	good(t, d.Write("a", []byte{2}), d.Rename("a", "1"), d.Write("0", nil))
	reads(t, d, "1", 2)
	refusesFull(t, d, "a")
	good(t, d.Delete("2"), d.Write("a", nil))
	refusesFull(t, d, "2")
	d.Fill(true)
	refusesFull(t, d, "1")
	refusesFull(t, d, "2")
	d.Fill(false)
	good(t, d.Write("1", nil))
	refusesFull(t, d, "2")
}

// P7.1: a crash and a loss make room, as far as files are gone.
func TestRoomBehind(t *testing.T) {
	d := crowded(t)
	d.Crash()
	for i := range api.MaxFiles / 2 {
		good(t, d.Write("n"+strconv.Itoa(i), nil))
	}
	refusesFull(t, d, "a")
	d.Lose()
	for i := range api.MaxFiles {
		good(t, d.Write("n"+strconv.Itoa(i), nil))
	}
	refusesFull(t, d, "a")
	if d.Flip(0) {
		t.Error("files without bytes have no bits")
	}
	d.Crash()
	lists(t, d)
}

// P7.1: which error comes first, where two hold: ErrName, then ErrGone, then ErrFull.
func TestFirstError(t *testing.T) {
	d := crowded(t)
	for _, full := range []bool{false, true} {
		d.Fill(full)
		refusesName(t, d, "a b")
		refusesName(t, d, "")
		gone(t, d, "a")
		if d.Rename("a", "0") != api.ErrGone || d.Rename("0", "") != api.ErrName || d.Rename("", "0") != api.ErrName || d.Rename("a", "") != api.ErrName {
			t.Fatal("the errors of Rename")
		}
		refusesFull(t, d, "a")
		if err := d.Sync("0"); (err == api.ErrFull) != full || (err == nil) == full {
			t.Fatal("Sync:", err)
		}
	}
}
