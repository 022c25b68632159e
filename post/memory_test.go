package post

import (
	"bollard/api"
	"bytes"
	"slices"
	"testing"
	"unsafe"
)

// changing is a text whose bytes change afterwards, as no text of the language does: what was kept of it would change too.
func changing(text string) (string, func()) {
	b := append([]byte(text), 'x')
	return unsafe.String(&b[0], len(text)), func() {
		for i := range b {
			b[i] = '#'
		}
	}
}

// roomyCommand is the command with spare room behind its Parts, filled with something, and what changes its texts and Parts.
func roomyCommand(c api.Command) (api.Command, func()) {
	bucket, first := changing(c.Bucket)
	key, second := changing(c.Key)
	etag, third := changing(c.Piece.Etag)
	c.Bucket, c.Key, c.Piece.Etag = bucket, key, etag
	c.Parts = append(slices.Clone(c.Parts), 7, 7, 7)[:len(c.Parts)]
	return c, func() {
		first()
		second()
		third()
		fillParts(c.Parts)
	}
}

func fillParts(parts []int) {
	for i := range parts[:cap(parts)] {
		parts[:cap(parts)][i] = -9
	}
}

func fillLedger(ledger []api.Command) {
	for i := range ledger[:cap(ledger)] {
		ledger[:cap(ledger)][i] = api.Command{Kind: -9, Bucket: "over"}
	}
}

func fillBytes(list []byte) {
	for i := range list[:cap(list)] {
		list[:cap(list)][i] = 7
	}
}

// fill overwrites all lists of a message, spare room included.
func fill(m api.Message) {
	for _, c := range m.Ledger {
		fillParts(c.Parts)
	}
	fillLedger(m.Ledger)
	fillBytes(m.Frame)
}

// roomy is the message with spare room behind its lists, filled with something, and what changes all of it.
func roomy(m api.Message) (api.Message, func()) {
	var ledger []api.Command
	var all []func()
	for _, c := range m.Ledger {
		one, change := roomyCommand(c)
		ledger, all = append(ledger, one), append(all, change)
	}
	count := len(m.Ledger)
	m.Ledger = append(ledger, append(commands(), badCommands()...)...)[:count]
	m.Frame = roomyBytes(m.Frame, bytes.Repeat([]byte{3}, 5000))
	return m, func() {
		for _, change := range all {
			change()
		}
		fillLedger(m.Ledger)
		fillBytes(m.Frame)
	}
}

// roomyBytes is the list with spare room behind its length, filled with what stands behind.
func roomyBytes(list, behind []byte) []byte {
	return append(bytes.Clone(list), behind...)[:len(list)]
}

// inside is all that a message holds, spare room included.
func inside(m api.Message) string {
	out := text(m) + text(m.Frame[:cap(m.Frame)])
	for _, c := range m.Ledger[:cap(m.Ledger)] {
		out += text(c) + text(c.Parts[:cap(c.Parts)])
	}
	return out
}

// cleanBytes asks that nothing is handed out behind a list of bytes.
func cleanBytes(t *testing.T, list []byte) {
	t.Helper()
	behind := list[len(list):cap(list)]
	holds(t, bytes.Equal(behind, make([]byte, len(behind))), "something is handed out behind an answer")
}

// clean asks that nothing is handed out behind the lists of a message.
func clean(t *testing.T, m api.Message) {
	t.Helper()
	cleanBytes(t, m.Frame)
	for i, c := range m.Ledger[:cap(m.Ledger)] {
		holds(t, i < len(m.Ledger) || text(c) == text(api.Command{}), "something is handed out behind a ledger:", text(c))
		behind := c.Parts[len(c.Parts):cap(c.Parts)]
		holds(t, slices.Equal(behind, make([]int, len(behind))), "something is handed out behind Parts:", behind)
	}
}

// memorySamples are messages of each kind, with ledgers that have Parts, and some that aren't in form.
func memorySamples() []api.Message {
	out := append(samples(), middles()...)
	out = append(out, withLedger(rowOf(100))...)
	out = append(out, fulls()...)
	return append(out, withLedger(badCommands())...)
}

// Rule 4: Check and Put change nothing of what they are handed, read nothing behind it, and what is answered shares none of it.
func TestPutMemory(t *testing.T) {
	for _, sample := range memorySamples() {
		m, change := roomy(sample)
		before := inside(m)
		checked := Check(m)
		b, err := Put(m)
		again, fault := Put(m)
		holds(t, inside(m) == before, "Check or Put changes what it is handed:", text(sample))
		holds(t, err == fault && checked == err && err == Check(sample), "Put twice:", err, fault, checked)
		if err != nil {
			holds(t, b == nil && again == nil, "Put answers bytes beside an error")
			continue
		}
		cleanBytes(t, b)
		change()
		holds(t, bytes.Equal(b, plainPut(sample)), "Put keeps what it is handed:", text(sample))
		fillBytes(b)
		holds(t, bytes.Equal(again, plainPut(sample)), "two answers of Put share memory:", text(sample))
		holds(t, bytes.Equal(put(t, sample), plainPut(sample)), "an answer of Put is shared with a later one:", text(sample))
	}
}

// Rule 4: lists with spare room are as long as they say: what lies behind is neither asked nor written.
func TestSpareRoom(t *testing.T) {
	for _, sample := range middles() {
		m, _ := roomy(sample)
		judged(t, m, true)
	}
	full := only(api.MsgAccept, fulls()[1])
	full.Ledger = rowOf(maxLedger + 1)[:maxLedger]
	judged(t, full, true)
	full = only(api.MsgStore, fulls()[1])
	full.Frame = make([]byte, maxFrame+1)[:maxFrame]
	judged(t, full, true)
}

// Rule 4: Get changes nothing of what it is handed, reads nothing behind it, and what is answered shares none of it, nor with what is answered later.
func TestGetMemory(t *testing.T) {
	for _, sample := range memorySamples() {
		if Check(sample) != nil {
			continue
		}
		whole := plainPut(sample)
		b := roomyBytes(whole, whole)
		got, err := Get(b)
		again, fault := Get(b)
		holds(t, err == nil && fault == nil, "Get of", text(sample), err, fault)
		holds(t, bytes.Equal(b[:cap(b)][:2*len(whole)], append(bytes.Clone(whole), whole...)), "Get changes what it is handed")
		clean(t, got)
		fillBytes(b)
		holds(t, text(got) == text(sample), "Get keeps what it is handed:", text(got))
		fill(got)
		holds(t, text(again) == text(sample), "two answers of Get share memory:", text(again))
		later, fault := Get(whole)
		holds(t, fault == nil && text(later) == text(sample), "an answer of Get is shared with a later one:", text(later), fault)
	}
}

// Rule 4: Get of bytes that are cut short reads none of those that lie behind.
func TestGetBehind(t *testing.T) {
	for _, sample := range middles() {
		whole := plainPut(sample)
		for n := range whole {
			want := api.ErrDigest
			if n < 4 {
				want = api.ErrBytes
			}
			getRefuses(t, roomyBytes(whole[:n], whole[n:]), want)
		}
	}
}

// Rule 4: no two lists of one answer share memory, spare room included.
func TestListsApart(t *testing.T) {
	for _, m := range withLedger(slices.Repeat(commands()[6:7], 5)) {
		want := text(m)
		for i := range m.Ledger {
			got, err := Get(put(t, m))
			holds(t, err == nil && text(got) == want, "Get:", text(got), err)
			fillParts(got.Ledger[i].Parts)
			got.Ledger[i].Parts = slices.Clone(m.Ledger[i].Parts)
			_ = append(got.Frame, 1, 2, 3)
			holds(t, text(got) == want, "lists of one answer share memory:", text(got))
		}
	}
}

// Rule 4: what Get answered may be put, and what Put answered may be read, each changed afterwards.
func TestHandedOn(t *testing.T) {
	for _, sample := range samples() {
		first := put(t, sample)
		m, err := Get(first)
		holds(t, err == nil, err)
		second := put(t, m)
		fillBytes(first)
		fill(m)
		again, err := Get(second)
		holds(t, err == nil && text(again) == text(sample), "bytes of what was read change with it:", text(again), err)
	}
}

// Rule 8: what a call answers hangs on nothing that was called ahead, refused or not.
func TestCallsApart(t *testing.T) {
	for _, sample := range append(middles(), samples()...) {
		want := plainPut(sample)
		for _, other := range append(middles(), api.Message{}, fulls()[2]) {
			b, err := Put(other)
			holds(t, err == Check(other), "Put of", text(other), err)
			_, _ = Get(b)
			_, _ = Get(plainPut(other)[:9])
			_, _ = Get(plainPut(fulls()[1]))
			got, err := Get(want)
			holds(t, err == nil && text(got) == text(sample), "Get behind other calls:", text(got), err)
			holds(t, bytes.Equal(put(t, sample), want), "Put behind other calls:", text(sample))
		}
	}
}
