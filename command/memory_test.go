package command

import (
	"bollard/api"
	"bytes"
	"slices"
	"testing"
	"unsafe"
)

// changing is a text whose bytes change afterwards, as no text of the language does: what was kept of it would change too.
func changing(text string) (string, func()) {
	b := append([]byte(text), 'x')
	return unsafe.String(&b[0], len(text)), func() {
		for i := range b {
			b[i] = '#'
		}
	}
}

// roomyCommand is the command with spare room behind its Parts, filled with something, and what changes its texts.
func roomyCommand(c api.Command) (api.Command, func()) {
	bucket, first := changing(c.Bucket)
	key, second := changing(c.Key)
	etag, third := changing(c.Piece.Etag)
	c.Bucket, c.Key, c.Piece.Etag = bucket, key, etag
	c.Parts = append(slices.Clone(c.Parts), 7, 7, 7)[:len(c.Parts)]
	return c, func() {
		first()
		second()
		third()
		for i := range c.Parts[:cap(c.Parts)] {
			c.Parts[:cap(c.Parts)][i] = -9
		}
	}
}

// roomyLedger is the ledger with spare room behind it, and what changes all of it.
func roomyLedger(ledger []api.Command) ([]api.Command, func()) {
	var out []api.Command
	var all []func()
	for _, c := range ledger {
		one, change := roomyCommand(c)
		out, all = append(out, one), append(all, change)
	}
	out = append(out, middles()...)[:len(ledger)]
	return out, func() {
		for _, change := range all {
			change()
		}
		for i := range out[:cap(out)] {
			out[:cap(out)][i] = api.Command{Kind: -9, Bucket: "over"}
		}
	}
}

// inside is all that a ledger holds, spare room included.
func inside(ledger []api.Command) string {
	out := ""
	for _, c := range ledger[:cap(ledger)] {
		out += text(c) + text(c.Parts[:cap(c.Parts)])
	}
	return out
}

// roomyBytes is the list with spare room behind its length, filled with what stands behind.
func roomyBytes(list, behind []byte) []byte {
	return append(bytes.Clone(list), behind...)[:len(list)]
}

func overwriteBytes(list []byte) {
	for i := range list[:cap(list)] {
		list[:cap(list)][i] = 255
	}
}

func cleanBytes(t *testing.T, list []byte) {
	t.Helper()
	behind := list[len(list):cap(list)]
	holds(t, bytes.Equal(behind, make([]byte, len(behind))), "something is handed out behind an answer")
}

// cleanParts asks that nothing is handed out behind a command's Parts.
func cleanParts(t *testing.T, c api.Command) {
	t.Helper()
	behind := c.Parts[len(c.Parts):cap(c.Parts)]
	holds(t, slices.Equal(behind, make([]int, len(behind))), "something is handed out behind Parts")
}

// Rule 4: Check and Put change nothing of what they are handed, read nothing behind it, and what is answered shares none of it.
func TestPutMemory(t *testing.T) {
	for _, sample := range append(samples(), fulls()...) {
		c, change := roomyCommand(sample)
		before := inside([]api.Command{c})
		checked := Check(c)
		b, err := Put(c)
		again, fault := Put(c)
		holds(t, inside([]api.Command{c}) == before, "Check or Put changes what it is handed:", before)
		holds(t, err == fault && checked == err && err == Check(sample), "Put twice:", err, fault, checked)
		if err != nil {
			continue
		}
		cleanBytes(t, b)
		change()
		holds(t, bytes.Equal(b, plainPut(sample)), "Put keeps what it is handed:", text(sample))
		overwriteBytes(b)
		holds(t, bytes.Equal(again, plainPut(sample)), "two answers of Put share memory:", text(sample))
	}
}

// Rule 4: Parts with spare room are as long as they say: what lies behind is neither asked nor written.
func TestPartsRoom(t *testing.T) {
	c := only(api.CmdComplete, fulls()[1])
	for _, behind := range [][]int{{16}, {1}, {0}, {-1}, {17}, numbersTo(16)} {
		c.Parts = append([]int{2, 3}, behind...)[:2]
		judged(t, c, true)
		c.Parts = c.Parts[:0]
		judged(t, c, false)
		floor := api.Command{Kind: api.CmdFloor, Parts: c.Parts}
		judged(t, floor, true)
	}
}

// Rule 4: Write changes nothing of what it is handed, reads nothing behind it, and what is answered shares none of it.
func TestWriteMemory(t *testing.T) {
	for _, sample := range [][]api.Command{nil, samples()[:1], samples(), fulls()} {
		ledger, change := roomyLedger(sample)
		before := inside(ledger)
		b, err := Write(ledger)
		again, fault := Write(ledger)
		holds(t, inside(ledger) == before, "Write changes what it is handed")
		holds(t, err == fault, "Write twice:", err, fault)
		if err != nil {
			continue
		}
		cleanBytes(t, b)
		change()
		holds(t, bytes.Equal(b, plainWrite(sample)), "Write keeps what it is handed, or reads past it")
		overwriteBytes(b)
		holds(t, bytes.Equal(again, plainWrite(sample)), "two answers of Write share memory")
	}
}

// Rule 4: Get changes nothing of what it is handed, reads nothing behind it, and what is answered shares none of it.
func TestGetMemory(t *testing.T) {
	for _, sample := range samples() {
		whole := plainPut(sample)
		b := roomyBytes(whole, whole)
		got, err := Get(b)
		again, fault := Get(b)
		holds(t, err == nil && fault == nil, "Get of", text(sample), err, fault)
		holds(t, bytes.Equal(b[:cap(b)][:2*len(whole)], append(whole, whole...)), "Get changes what it is handed")
		cleanParts(t, got)
		overwriteBytes(b)
		holds(t, text(got) == text(sample), "Get keeps what it is handed:", text(got))
		for i := range got.Parts[:cap(got.Parts)] {
			got.Parts[:cap(got.Parts)][i] = -9
		}
		holds(t, text(again) == text(sample), "two answers of Get share memory:", text(again))
		for _, n := range []int{0, 1, len(whole) / 2, len(whole) - 1} {
			getRefuses(t, whole[:n])
			getRefuses(t, roomyBytes(whole[:n], whole[n:]))
		}
	}
}

// Rule 4: Read changes nothing of what it is handed, reads nothing behind it, and what is answered shares none of it.
func TestReadMemory(t *testing.T) {
	for _, sample := range [][]api.Command{nil, samples()[:1], samples(), repeated(100)} {
		whole := plainWrite(sample)
		b := roomyBytes(whole, whole)
		got, err := Read(b)
		again, fault := Read(b)
		holds(t, err == nil && fault == nil, "Read:", err, fault)
		holds(t, bytes.Equal(b[:cap(b)][:2*len(whole)], append(whole, whole...)), "Read changes what it is handed")
		for _, c := range got[len(got):cap(got)] {
			holds(t, text(c) == text(api.Command{}), "something is handed out behind an answer:", text(c))
		}
		overwriteBytes(b)
		holds(t, text(got) == text(sample), "Read keeps what it is handed")
		for i := range got[:cap(got)] {
			cleanParts(t, got[:cap(got)][i])
			got[:cap(got)][i] = api.Command{Kind: -9}
		}
		holds(t, text(again) == text(sample), "two answers of Read share memory")
		for _, n := range []int{0, 1, 3, 4, len(whole) - 1} {
			want := api.ErrDigest
			if n < 4 {
				want = api.ErrBytes
			}
			readRefuses(t, roomyBytes(whole[:n], whole[n:]), want)
		}
	}
}

// Rule 4: no two commands' Parts of one answer share memory, spare room included.
func TestPartsApart(t *testing.T) {
	c := only(api.CmdComplete, fulls()[1])
	for n := 1; n <= 16; n++ {
		c.Parts = numbersTo(n)
		ledger := []api.Command{c, c, c}
		for i := range ledger {
			got, err := Read(written(t, ledger))
			holds(t, err == nil, err)
			parts := got[i].Parts[:cap(got[i].Parts)]
			for k := range parts {
				parts[k] = -9
			}
			for k, other := range got {
				holds(t, k == i || slices.Equal(other.Parts, c.Parts), "Parts of two commands share memory:", text(other))
			}
		}
	}
}

// Rule 8: what a call answers hangs on nothing that was called ahead, refused or not.
func TestCallsApart(t *testing.T) {
	good, bad := samples()[10], api.Command{Kind: 12}
	want, row := put(t, good), written(t, samples())
	for range 3 {
		_, _ = Put(bad)
		_, _ = Get(want[:5])
		_, _ = Read(row[:9])
		_, _ = Write(make([]api.Command, api.MaxLedger+1))
		got, err := Get(want)
		holds(t, err == nil && text(got) == text(good) && bytes.Equal(put(t, good), want), "behind refused calls:", text(got), err)
		all, err := Read(row)
		holds(t, err == nil && text(all) == text(samples()) && bytes.Equal(written(t, samples()), row), "behind refused calls:", len(all), err)
	}
}
