package command

import (
	"bollard/api"
	"bytes"
	"math"
	"slices"
	"testing"
)

// bytesOf is each command's bytes by the other implementation.
func bytesOf(ledger []api.Command) [][]byte {
	var out [][]byte
	for _, c := range ledger {
		out = append(out, plainPut(c))
	}
	return out
}

// repeated is a ledger of so many commands, those of the samples over and over.
func repeated(n int) []api.Command {
	all := samples()
	var out []api.Command
	for i := range n {
		out = append(out, all[i%len(all)])
	}
	return out
}

// P10.1, P10.2: ledgers of no command, of some, of as many as there may be, both ways.
func TestLedgers(t *testing.T) {
	for _, n := range []int{0, 1, 2, 3, 11, 33, 126, 127, 128, 129, 255, 256, 1000, api.MaxLedger - 1, api.MaxLedger} {
		ledger := repeated(n)
		b := written(t, ledger)
		holds(t, bytes.Equal(b, plainWrite(ledger)), "Write of", n, "commands")
		back, err := Read(b)
		holds(t, err == nil && len(back) == n && text(back) == text(ledger), "Read of", n, "commands:", len(back), err)
		holds(t, bytes.Equal(written(t, back), b), "Write of what Read took:", n, "commands")
	}
	holds(t, bytes.Equal(written(t, nil), written(t, []api.Command{})), "no command and none")
}

// P10.1: a ledger of one command more is too large, whatever its commands are; its bytes are those of none.
func TestTooLarge(t *testing.T) {
	for _, n := range []int{api.MaxLedger + 1, api.MaxLedger + 2, 2 * api.MaxLedger, 1 << 16} {
		ledger := repeated(n)
		for range 2 {
			b, err := Write(ledger)
			holds(t, err == api.ErrLarge && b == nil, "Write of", n, "commands:", err)
			ledger[0], ledger[n-1] = api.Command{}, api.Command{Kind: 12}
		}
		b, err := Write(make([]api.Command, n))
		holds(t, err == api.ErrLarge && b == nil, "Write of", n, "commands that aren't in form:", err)
		readRefuses(t, plainWrite(repeated(n)), api.ErrBytes)
	}
}

// P10.1: a ledger with a command that isn't in form, wherever it stands, is refused both ways.
func TestLedgerNotInForm(t *testing.T) {
	bad := []api.Command{{}, {Kind: 12}, {Kind: api.CmdMake, Bucket: "aaa", Key: "k"}, {Kind: api.CmdFloor, Id: idOf(16, 0, 0)}, {Kind: api.CmdExpire, Time: maxTime + 1}}
	for _, n := range []int{1, 2, 3, 40, api.MaxLedger} {
		for _, c := range bad {
			for _, place := range []int{0, n / 2, n - 1} {
				ledger := repeated(n)
				ledger[place] = c
				b, err := Write(ledger)
				holds(t, err == api.ErrState && b == nil, "Write of", n, "commands, with", text(c), err)
				readRefuses(t, plainWrite(ledger), api.ErrBytes)
			}
		}
	}
	b, err := Write([]api.Command{{Kind: api.CmdFloor, Id: idOf(-1, 0, 0)}, {}})
	holds(t, err == api.ErrState && b == nil, "Write of two that aren't in form:", err)
}

// P10.1: beginnings of a ledger's bytes: three bytes and fewer are ErrBytes, others ErrDigest; sealed again they are ErrBytes.
func TestLedgerBeginnings(t *testing.T) {
	for _, ledger := range [][]api.Command{nil, middles()[10:], middles(), samples()[5:9]} {
		b := written(t, ledger)
		plain := b[:len(b)-4]
		for n := range b {
			want := api.ErrDigest
			if n < 4 {
				want = api.ErrBytes
			}
			readRefuses(t, b[:n], want)
			readsAsPlain(t, b[:n])
		}
		for n := range plain {
			readRefuses(t, plainSealed(plain[:n]), api.ErrBytes)
		}
		for more := range 256 {
			readRefuses(t, append(bytes.Clone(b), byte(more)), api.ErrDigest)
			readRefuses(t, plainSealed(append(bytes.Clone(plain), byte(more))), api.ErrBytes)
		}
		readRefuses(t, plainSealed(b), api.ErrBytes)
		readRefuses(t, plainSealed(append(bytes.Clone(plain), plain...)), api.ErrBytes)
	}
	readRefuses(t, nil, api.ErrBytes)
	readRefuses(t, plainSealed(nil), api.ErrBytes)
	readRefuses(t, make([]byte, 4), api.ErrDigest)
}

// P10.1: one byte changed to each other one is told by the sum, be what is left a ledger's bytes or not.
func TestLedgerChanged(t *testing.T) {
	for _, ledger := range [][]api.Command{nil, middles()[9:], middles()[:3]} {
		b := written(t, ledger)
		for i := range b {
			for range 255 {
				b[i]++
				readRefuses(t, b, api.ErrDigest)
			}
			b[i]++
		}
	}
	b := written(t, samples())
	for i := range b {
		b[i] ^= 1 << (i % 8)
		readRefuses(t, b, api.ErrDigest)
		b[i] ^= 1 << (i % 8)
	}
}

// P10.1: a wrong sum is told ahead of all else that is wrong.
func TestSumFirst(t *testing.T) {
	for _, plain := range [][]byte{{}, {1}, {128, 0}, plainLedger(3, bytesOf(middles())...), plainLedger(1, plainPut(api.Command{})), plainLedger(math.MaxInt)} {
		b := plainSealed(plain)
		readRefuses(t, b, api.ErrBytes)
		b[len(b)-1]++
		readRefuses(t, b, api.ErrDigest)
	}
}

// P10.1: sealed bytes whose number isn't that of the commands behind it.
func TestOtherCounts(t *testing.T) {
	for _, n := range []int{0, 1, 2, 11, 127, 128, api.MaxLedger - 1, api.MaxLedger} {
		all := bytesOf(repeated(n))
		holds(t, readsAsPlain(t, plainSealed(plainLedger(n, all...))), "Read of", n, "commands")
		for _, count := range []int{n - 1, n + 1, n + 2, 2*n + 1, n + 128, api.MaxLedger + 1, 1 << 31, 1 << 32, 1<<32 + n, 1 << 62, math.MaxInt, math.MinInt, -1} {
			if count != n {
				readRefuses(t, plainSealed(plainLedger(count, all...)), api.ErrBytes)
			}
		}
	}
	for _, n := range []int{api.MaxLedger + 1, api.MaxLedger + 2, 2 * api.MaxLedger} {
		all := bytesOf(repeated(n))
		for _, count := range []int{n, api.MaxLedger, n - api.MaxLedger, 0} {
			readRefuses(t, plainSealed(plainLedger(count, all...)), api.ErrBytes)
		}
	}
}

// P10.1: sealed bytes whose numbers are longer than need be: how many commands there are, and how many bytes each has.
func TestLedgerLongNumbers(t *testing.T) {
	floor := plainPut(api.Command{Kind: api.CmdFloor, Id: idOf(1, 2, 3)})
	for _, head := range [][]byte{{129, 0, 18}, {1, 146, 0}, {129, 128, 0, 18}, {1, 146, 128, 0}} {
		readRefuses(t, plainSealed(append(head, floor...)), api.ErrBytes)
	}
	readRefuses(t, plainSealed([]byte{128, 0}), api.ErrBytes)
	holds(t, readsAsPlain(t, plainSealed(append([]byte{1, 18}, floor...))), "Read of one command")
}

// shifted is the bytes of all lists cut anew, the first so many lists being as they are, the next one longer by some bytes of the one behind it.
func shifted(all [][]byte, first, more int) [][]byte {
	both := slices.Concat(all[first], all[first+1])
	cut := len(all[first]) + more
	return slices.Concat(all[:first], [][]byte{both[:cut], both[cut:]}, all[first+2:])
}

// P10.1: commands as lists of more or fewer bytes than they have, though all bytes together are as many.
func TestShiftedLists(t *testing.T) {
	all := bytesOf(middles())
	for i := range len(all) - 1 {
		for _, more := range []int{-2, -1, 1, 2} {
			readRefuses(t, plainSealed(plainLedger(len(all), shifted(all, i, more)...)), api.ErrBytes)
		}
	}
	holds(t, readsAsPlain(t, plainSealed(plainLedger(len(all), shifted(all, 0, 0)...))), "Read of lists as they are")
	for i := range all {
		for _, other := range [][]byte{append(bytes.Clone(all[i]), 0), all[i][:len(all[i])-1], all[i][1:], nil} {
			changed := slices.Clone(all)
			changed[i] = other
			readRefuses(t, plainSealed(plainLedger(len(changed), changed...)), api.ErrBytes)
		}
	}
	readRefuses(t, plainSealed(plainLedger(1, bytes.Repeat([]byte{11}, 1<<20))), api.ErrBytes)
}
