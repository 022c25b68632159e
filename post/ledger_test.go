package post

import (
	"bollard/api"
	"bytes"
	"math"
	"slices"
	"testing"
)

// withLedger are messages in form that have this ledger.
func withLedger(ledger []api.Command) []api.Message {
	out := []api.Message{only(api.MsgPromise, fulls()[1]), only(api.MsgAccept, fulls()[1]), only(api.MsgAccept, fulls()[0])}
	for i := range out {
		out[i].Ledger = ledger
	}
	return out
}

// sealedWith are messages' sealed bytes with these in the place of a ledger's.
func sealedWith(ledger []byte) [][]byte {
	var out [][]byte
	for _, m := range middles() {
		out = append(out, sealedPieces(piecesWith(m, ledger)))
	}
	return out
}

// noLedgerIn asks that bytes are taken for those of no message, if these are in the place of its ledger's.
func noLedgerIn(t *testing.T, ledger []byte) {
	t.Helper()
	for _, b := range sealedWith(ledger) {
		getRefuses(t, b, api.ErrBytes)
	}
}

// P15.1, P15.2: ledgers of no command, of one, of as many as there may be, and of more.
func TestLedgers(t *testing.T) {
	for _, n := range []int{0, 1, 2, 126, 127, 128, 129, 1000, maxLedger - 1, maxLedger, maxLedger + 1, maxLedger + 2, 2 * maxLedger} {
		for _, m := range withLedger(rowOf(n)) {
			judged(t, m, n <= maxLedger)
		}
	}
}

// P15.1: of each other kind no ledger at all is in form.
func TestNoLedger(t *testing.T) {
	for _, sample := range middles() {
		if sample.Kind == api.MsgPromise || sample.Kind == api.MsgAccept {
			continue
		}
		for _, n := range []int{1, 2, maxLedger, maxLedger + 1} {
			m := sample
			m.Ledger = rowOf(n)
			judged(t, m, false)
		}
	}
}

// P15.1: a ledger with a command that isn't in form, wherever it stands.
func TestBadCommands(t *testing.T) {
	for _, n := range []int{1, 2, 3, 40} {
		for _, c := range badCommands() {
			for _, place := range []int{0, n / 2, n - 1} {
				ledger := rowOf(n)
				ledger[place] = c
				for _, m := range withLedger(ledger) {
					judged(t, m, false)
				}
			}
		}
	}
	for _, place := range []int{0, 1, maxLedger / 2, maxLedger - 2, maxLedger - 1} {
		ledger := rowOf(maxLedger)
		ledger[place] = badCommands()[0]
		judged(t, withLedger(ledger)[0], false)
	}
	judged(t, withLedger(make([]api.Command, maxLedger))[0], false)
	judged(t, withLedger(make([]api.Command, maxLedger+1))[1], false)
}

// P15.1: a ledger may have commands twice, and in any order: the chapter asks each by itself.
func TestAnyOrder(t *testing.T) {
	ledger := append(rowOf(11), rowOf(11)...)
	slices.Reverse(ledger)
	for _, m := range withLedger(ledger) {
		judged(t, m, true)
	}
}

// P15.1: a ledger's bytes that are none, in bytes that are well sealed: that the ledger's own sum is wrong makes no other error of it.
func TestLedgerBytesThatAreNone(t *testing.T) {
	for _, b := range [][]byte{nil, {0}, {0, 0}, {0, 0, 0}, {0, 0, 0, 0}, {0, 0, 0, 0, 0}, plainSealed(nil), plainSealed([]byte{1}), plainSealed([]byte{0, 0}), plainSealed([]byte{128, 0}), []byte("ledger")} {
		noLedgerIn(t, b)
	}
	for _, ledger := range [][]api.Command{nil, commands()[10:], commands()[9:]} {
		whole := plainWrite(ledger)
		for i := range whole {
			for _, more := range []byte{1, 2, 127, 128, 255} {
				b := bytes.Clone(whole)
				b[i] += more
				noLedgerIn(t, b)
			}
			noLedgerIn(t, whole[:i])
			if i < len(whole)-4 {
				noLedgerIn(t, plainSealed(whole[:i]))
			}
		}
		noLedgerIn(t, append(bytes.Clone(whole), 0))
		noLedgerIn(t, plainSealed(append(bytes.Clone(whole[:len(whole)-4]), 0)))
		noLedgerIn(t, plainSealed(whole))
	}
	for _, n := range []int{1, 2, 128, maxLedger + 1, 1 << 32, math.MaxInt, -1} {
		noLedgerIn(t, plainSealed(plainLedger(n, nil)))
		noLedgerIn(t, plainSealed(plainLedger(n, rowOf(3))))
	}
	for _, c := range badCommands() {
		noLedgerIn(t, plainWrite([]api.Command{c}))
		noLedgerIn(t, plainWrite(append(rowOf(2), c)))
	}
	noLedgerIn(t, plainWrite(rowOf(maxLedger+1)))
	noLedgerIn(t, plainSealed(plainLedger(maxLedger, rowOf(maxLedger+1))))
}

// P15.1, P15.2: a ledger's bytes with one byte changed and its sum made anew, all sealed again, held against another implementation.
func TestLedgerChangedAndSealed(t *testing.T) {
	taken := 0
	for _, ledger := range [][]api.Command{nil, commands()[9:], commands()[:2]} {
		plain := plainLedger(len(ledger), ledger)
		for i := range plain {
			for range 255 {
				plain[i]++
				for _, m := range withLedger(nil) {
					if getsAsPlain(t, sealedPieces(piecesWith(m, plainSealed(plain)))) {
						taken++
					}
				}
			}
			plain[i]++
		}
	}
	holds(t, taken > 1000, "too few messages among them:", taken)
}
