package disk

import (
	"bollard/api"
	"bytes"
	"fmt"
	"math/big"
	"math/rand/v2"
	"slices"
	"strings"
	"testing"
)

// source gives the same numbers on every run.
func source() *rand.Rand { return rand.New(rand.NewPCG(7, 512)) }

func someBytes(r *rand.Rand, n int) []byte {
	out := make([]byte, n)
	for i := range out {
		out[i] = byte(r.Uint32())
	}
	return out
}

// plainFile is a file of the other implementation; safe has what is safe, or nothing.
type plainFile struct {
	name  string
	bytes []byte
	safe  [][]byte
}

// plainDrive is the other implementation of a drive: its files are a row, in the order in which they came.
type plainDrive struct {
	row  []*plainFile
	full bool
	lost int
}

func plainName(name string) bool {
	const legal = "!\"#$%&'()*+,-./0123456789:;<=>?@ABCDEFGHIJKLMNOPQRSTUVWXYZ[\\]^_`abcdefghijklmnopqrstuvwxyz{|}~"
	for _, b := range []byte(name) {
		if strings.IndexByte(legal, b) < 0 {
			return false
		}
	}
	return name != "" && len(name) < 64
}

func (p *plainDrive) at(name string) int {
	return slices.IndexFunc(p.row, func(f *plainFile) bool { return f.name == name })
}

func (p *plainDrive) drop(name string) {
	p.row = slices.DeleteFunc(p.row, func(f *plainFile) bool { return f.name == name })
}

// rising is the row by rising names.
func (p *plainDrive) rising() []*plainFile {
	out := slices.Clone(p.row)
	slices.SortFunc(out, func(a, b *plainFile) int { return bytes.Compare([]byte(a.name), []byte(b.name)) })
	return out
}

func (p *plainDrive) write(name string, b []byte) error {
	switch i := p.at(name); {
	case !plainName(name):
		return api.ErrName
	case p.full:
		return api.ErrFull
	case i >= 0:
		p.row[i].bytes = bytes.Clone(b)
	case len(p.row) == 512:
		return api.ErrFull
	default:
		p.row = append(p.row, &plainFile{name: name, bytes: bytes.Clone(b)})
	}
	return nil
}

func (p *plainDrive) sync(name string) error {
	switch i := p.at(name); {
	case !plainName(name):
		return api.ErrName
	case i < 0:
		return api.ErrGone
	case p.full:
		return api.ErrFull
	default:
		p.row[i].safe = [][]byte{bytes.Clone(p.row[i].bytes)}
	}
	return nil
}

func (p *plainDrive) rename(from, to string) error {
	switch i := p.at(from); {
	case !plainName(from) || !plainName(to):
		return api.ErrName
	case i < 0:
		return api.ErrGone
	case from != to:
		f := p.row[i]
		p.drop(to)
		f.name = to
	}
	return nil
}

func (p *plainDrive) delete(name string) error {
	if !plainName(name) {
		return api.ErrName
	}
	if p.at(name) < 0 {
		return api.ErrGone
	}
	p.drop(name)
	return nil
}

func (p *plainDrive) read(name string) ([]byte, error) {
	if !plainName(name) {
		return nil, api.ErrName
	}
	if p.at(name) < 0 {
		return nil, api.ErrGone
	}
	return bytes.Clone(p.row[p.at(name)].bytes), nil
}

func (p *plainDrive) crash() {
	p.row = slices.DeleteFunc(p.row, func(f *plainFile) bool { return len(f.safe) == 0 })
	for _, f := range p.row {
		f.bytes = bytes.Clone(f.safe[0])
	}
}

// flip lays all bits out as a row, each with its file and the byte and the bit that it is there.
func (p *plainDrive) flip(n int) bool {
	type bit struct {
		file      *plainFile
		byte, bit int
	}
	var all []bit
	for _, f := range p.rising() {
		for i := range f.bytes {
			for j := range 8 {
				all = append(all, bit{f, i, j})
			}
		}
	}
	if len(all) == 0 {
		return false
	}
	// Int.Mod is never below 0.
	i := new(big.Int).Mod(big.NewInt(int64(n)), big.NewInt(int64(len(all)))).Int64()
	turned := all[i]
	turned.file.bytes[turned.byte] ^= []byte{1, 2, 4, 8, 16, 32, 64, 128}[turned.bit]
	turned.file.safe = [][]byte{bytes.Clone(turned.file.bytes)}
	return true
}

func (p *plainDrive) lose() { *p = plainDrive{lost: p.lost + 1} }

// told is what a drive tells of itself: its names and the bytes behind them, and how often it was lost.
func (p *plainDrive) told() string {
	out := fmt.Sprint("lost ", p.lost)
	for _, f := range p.rising() {
		out += fmt.Sprintf(" %s=%x", f.name, f.bytes)
	}
	return out
}

func told(t *testing.T, d *Drive) string {
	t.Helper()
	out := fmt.Sprint("lost ", d.Lost())
	for name := range d.List() {
		b, err := d.Read(name)
		if err != nil {
			t.Fatal("a file that is listed:", name, err)
		}
		out += fmt.Sprintf(" %s=%x", name, b)
	}
	return out
}

// pair is a drive and one of the other implementation, to which the same is done.
type pair struct {
	drive *Drive
	plain *plainDrive
}

func newPair() pair { return pair{New(), &plainDrive{}} }

// same asks that both of the pair tell the same.
func (p pair) same(t *testing.T, row any) {
	t.Helper()
	if got, want := told(t, p.drive), p.plain.told(); got != want {
		t.Fatalf("behind %v:\n%s\nin the place of\n%s", row, got, want)
	}
}

// step is one call on a drive; n is the number of Flip, and for Fill whether the drive is full.
type step struct {
	call     string
	name, to string
	bytes    []byte
	n        int
}

// String tells a step, in a fault that is found.
func (s step) String() string {
	return fmt.Sprintf("%s(%q %q %x %d)", s.call, s.name, s.to, s.bytes, s.n)
}

// do does the step to both, and asks that both answer the same.
func (p pair) do(t *testing.T, s step) {
	t.Helper()
	var got, want any
	switch d, q := p.drive, p.plain; s.call {
	case "Write":
		got, want = d.Write(s.name, s.bytes), q.write(s.name, s.bytes)
	case "Sync":
		got, want = d.Sync(s.name), q.sync(s.name)
	case "Rename":
		got, want = d.Rename(s.name, s.to), q.rename(s.name, s.to)
	case "Delete":
		got, want = d.Delete(s.name), q.delete(s.name)
	case "Read":
		b, err := d.Read(s.name)
		c, fault := q.read(s.name)
		got, want = fmt.Sprintf("%x %v", b, err), fmt.Sprintf("%x %v", c, fault)
	case "Crash":
		d.Crash()
		q.crash()
	case "Flip":
		got, want = d.Flip(s.n), q.flip(s.n)
	case "Lose":
		d.Lose()
		q.lose()
	case "Fill":
		d.Fill(s.n != 0)
		q.full = s.n != 0
	default:
		t.Fatal("no such call:", s.call)
	}
	if got != want {
		t.Fatalf("%v: %v in the place of %v", s, got, want)
	}
}
