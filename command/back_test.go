package command

import (
	"bollard/api"
	"bytes"
	"slices"
	"testing"
)

// P10.2: drawn commands are read back as they were written.
func TestCommandsBack(t *testing.T) {
	r := source()
	kinds := map[int]int{}
	for range 30000 {
		c := drawn(r)
		kinds[c.Kind]++
		holds(t, Check(c) == nil, "Check of", text(c))
		b := put(t, c)
		holds(t, bytes.Equal(b, plainPut(c)), "Put of", text(c))
		got, err := Get(b)
		holds(t, err == nil && text(got) == text(c), "Get of Put of", text(c), text(got), err)
		holds(t, bytes.Equal(put(t, got), b), "Put of Get of", b)
	}
	holds(t, len(kinds) == 11, "kinds that were drawn:", kinds)
}

// P10.2: drawn ledgers are read back as they were written, in their order.
func TestLedgersBack(t *testing.T) {
	r := source()
	for i := range 300 {
		ledger := drawnLedger(r, i%60)
		b := written(t, ledger)
		holds(t, bytes.Equal(b, plainWrite(ledger)), "Write of", text(ledger))
		got, err := Read(b)
		holds(t, err == nil && text(got) == text(ledger), "Read of Write of", text(ledger), text(got), err)
		holds(t, bytes.Equal(written(t, got), b), "Write of Read of", b)
		slices.Reverse(ledger)
		holds(t, len(ledger) < 2 || !bytes.Equal(written(t, ledger), b), "the order isn't written:", text(ledger))
	}
}

// P10.2: drawn ledgers' bytes, spoilt here and there and sealed, held against another implementation.
func TestSpoiltLedgers(t *testing.T) {
	r := source()
	taken := 0
	for i := range 5000 {
		ledger := drawnLedger(r, i%6)
		all := bytesOf(ledger)
		count := len(all)
		switch r.IntN(4) {
		case 0:
			count += r.IntN(3) - 1
		case 1:
			all = append(all, joined(spoilt(r, pieces(drawn(r)))))
			count++
		}
		plain := plainLedger(count, all...)
		if r.IntN(3) == 0 {
			plain[r.IntN(len(plain))] = byte(r.Uint32())
		}
		if readsAsPlain(t, plainSealed(plain)) {
			taken++
		}
	}
	if taken < 1000 {
		t.Error("too few ledgers among them:", taken)
	}
}

// P10.2: all Parts that there can be, in form and read back; all pairs and threes of numbers as is told.
func TestAllParts(t *testing.T) {
	c := only(api.CmdComplete, fulls()[1])
	for set := 1; set < 1<<16; set++ {
		c.Parts = c.Parts[:0]
		for n := range 16 {
			if set>>n&1 == 1 {
				c.Parts = append(c.Parts, n+1)
			}
		}
		got, err := Get(put(t, c))
		if err != nil || !slices.Equal(got.Parts, c.Parts) {
			t.Fatal("Parts", c.Parts, "read back:", got.Parts, err)
		}
	}
	for a := -1; a < 19; a++ {
		for b := -1; b < 19; b++ {
			for d := -1; d < 19; d++ {
				c.Parts = []int{a, b, d}
				if want := 0 < a && a < b && b < d && d < 17; Check(c) == nil != want {
					t.Fatal("Check with Parts", c.Parts)
				}
			}
			c.Parts = []int{a, b}
			if want := 0 < a && a < b && b < 17; Check(c) == nil != want {
				t.Fatal("Check with Parts", c.Parts)
			}
		}
	}
}
