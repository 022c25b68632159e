package shelf

import (
	"bollard/api"
	"fmt"
	"testing"
)

// pair is a shelf and one of the other implementation, to which the same is done.
type pair struct {
	shelf *Shelf
	plain *plainShelf
}

func newPair(t *testing.T, node int) pair {
	t.Helper()
	return pair{newShelf(t, node), newPlain(node)}
}

// same asks that both of the pair tell the same.
func (p pair) same(t *testing.T, row any, blobs []api.Id) {
	t.Helper()
	if got, want := told(t, p.shelf, blobs), p.plain.told(blobs); got != want {
		t.Fatalf("behind %v:\n%s\nin the place of\n%s", row, got, want)
	}
}

// step is one call on a shelf, or (those whose names are in small letters) on its drive; n is the number of flip, and for fill whether the drive is full.
type step struct {
	call     string
	blob     api.Id
	bytes    []byte
	name, to string
	n        int
}

// String tells a step, in a fault that is found.
func (s step) String() string {
	return fmt.Sprintf("%s(%v %q %q %x %d)", s.call, s.blob, s.name, s.to, s.bytes, s.n)
}

// do does the step to both, and asks that both answer the same.
func (p pair) do(t *testing.T, s step) {
	t.Helper()
	var got, want any
	switch a, b := p.shelf, p.plain; s.call {
	case "Put":
		got, want = a.Put(s.bytes), b.put(s.bytes)
	case "Get":
		f, err := a.Get(s.blob)
		g, fault := b.get(s.blob)
		got, want = fmt.Sprintf("%x %v", f, err), fmt.Sprintf("%x %v", g, fault)
	case "Has":
		_, fault := b.get(s.blob)
		got, want = a.Has(s.blob), fault == nil
	case "Delete":
		got, want = a.Delete(s.blob), b.delete(s.blob)
	case "List":
		got, want = fmt.Sprint(a.List()), fmt.Sprint(b.list())
	case "Sweep":
		got, want = a.Sweep(), b.sweep()
	default:
		got, want = p.doDrive(t, s)
	}
	if got != want {
		t.Fatalf("%v: %v in the place of %v", s, got, want)
	}
}

// doDrive does the step to both drives, and gives what they answer.
func (p pair) doDrive(t *testing.T, s step) (got, want any) {
	t.Helper()
	switch d, b := p.shelf.Drive(), p.plain; s.call {
	case "write":
		return d.Write(s.name, s.bytes), b.write(s.name, s.bytes)
	case "sync":
		return d.Sync(s.name), b.sync(s.name)
	case "rename":
		return d.Rename(s.name, s.to), b.rename(s.name, s.to)
	case "delete":
		return d.Delete(s.name), b.drop(s.name)
	case "crash":
		d.Crash()
		b.crash()
	case "flip":
		return d.Flip(s.n), b.flip(s.n)
	case "lose":
		d.Lose()
		b.lose()
	case "fill":
		d.Fill(s.n != 0)
		b.full = s.n != 0
	default:
		t.Fatal("no such call:", s.call)
	}
	return nil, nil
}
