package command

import (
	"bollard/api"
	"bytes"
	"math"
	"math/rand/v2"
	"slices"
	"testing"
)

// getRefuses asks that the bytes are those of no command, whether they come alone or as a command of a ledger.
func getRefuses(t *testing.T, b []byte) {
	t.Helper()
	got, err := Get(b)
	holds(t, err == api.ErrBytes && text(got) == text(api.Command{}), "Get of", b, text(got), err)
	readRefuses(t, plainSealed(plainLedger(1, b)), api.ErrBytes)
}

func readRefuses(t *testing.T, b []byte, want error) {
	t.Helper()
	got, err := Read(b)
	if err != want || got != nil {
		t.Fatal("Read of", len(b), "bytes:", len(got), "commands,", err, "in the place of", want)
	}
}

// P10.1, P10.2: no strict beginning of a command's bytes is one's, nor are they with a byte ahead or behind.
func TestBeginnings(t *testing.T) {
	for _, c := range samples() {
		b := put(t, c)
		holds(t, getsAsPlain(t, b), "Get of Put of", text(c))
		for n := range b {
			getRefuses(t, b[:n])
		}
		for more := range 256 {
			getRefuses(t, append(bytes.Clone(b), byte(more)))
			getsAsPlain(t, append([]byte{byte(more)}, b...))
		}
		getRefuses(t, append(bytes.Clone(b), b...))
		for n := range b {
			getsAsPlain(t, b[n+1:])
		}
	}
	getRefuses(t, nil)
	getRefuses(t, []byte{})
}

// P10.1: each number that is written longer than need be, by one group and by as many as there can be.
func TestLongNumbers(t *testing.T) {
	for _, c := range samples() {
		all := pieces(c)
		for i, p := range all {
			if p.isRaw {
				continue
			}
			for more := range 10 {
				long := p.bytes()
				long[len(long)-1] |= 128
				long = append(append(long, bytes.Repeat([]byte{128}, more)...), 0)
				getRefuses(t, slices.Concat(joined(all[:i]), long, joined(all[i+1:])))
			}
		}
	}
}

// otherNumbers are both sides of every edge that a number may have.
func otherNumbers() []uint64 {
	var out []uint64
	for _, n := range []uint64{1, 4, 11, 15, 16, 64, 65, 127, 128, 200, 1024, 1 << 14, 1 << 32, 1 << 35, maxTime, 1 << 49, 1 << 62, math.MaxInt64, 1 << 63, math.MaxUint64 - 1} {
		out = append(out, n-1, n, n+1)
	}
	return out
}

// P10.1: each number of a command's bytes changed to another one, and each taken away or doubled, held against another implementation.
func TestOtherNumbers(t *testing.T) {
	taken := 0
	for _, c := range samples() {
		all := pieces(c)
		for i, p := range all {
			getsAsPlain(t, joined(slices.Delete(slices.Clone(all), i, i+1)))
			getsAsPlain(t, joined(slices.Insert(slices.Clone(all), i, p)))
			if p.isRaw {
				continue
			}
			for _, n := range otherNumbers() {
				changed := slices.Clone(all)
				changed[i].number = n
				if getsAsPlain(t, joined(changed)) {
					taken++
				}
			}
		}
	}
	if taken < 1000 {
		t.Error("too few commands among them:", taken)
	}
}

// P10.1: lengths of texts that aren't theirs: far too long ones end too.
func TestOtherLengths(t *testing.T) {
	for _, c := range middles() {
		all := pieces(c)
		for i, p := range all {
			if !p.isRaw {
				continue
			}
			for _, add := range []uint64{1, 2, 3, 1 << 31, 1 << 32, 1 << 62, math.MaxInt64 - uint64(len(p.raw)), math.MaxUint64} {
				changed := slices.Clone(all)
				changed[i-1].number += add
				getsAsPlain(t, joined(changed))
			}
		}
	}
}

// P10.1, P10.2: every byte of a command's bytes changed to every other one.
func TestChangedBytes(t *testing.T) {
	taken := 0
	for _, one := range shortHand() {
		b := hand(t, one.digits)
		for i := range b {
			for range 255 {
				b[i]++
				if getsAsPlain(t, b) {
					taken++
				}
			}
			b[i]++
		}
	}
	if taken < 1000 {
		t.Error("too few commands among them:", taken)
	}
}

// P10.1, P10.2: every bit of the greatest commands' bytes turned.
func TestTurnedBits(t *testing.T) {
	for _, c := range samples() {
		b := put(t, c)
		for i := range 8 * len(b) {
			b[i/8] ^= 1 << (i % 8)
			getsAsPlain(t, b)
			b[i/8] ^= 1 << (i % 8)
		}
	}
}

// P10.1: the bytes of commands that aren't in form: with one number of Parts too many, and the like, each well written.
func TestBytesNotInForm(t *testing.T) {
	refused := 0
	for _, sample := range samples() {
		for _, one := range smallChanges() {
			c := sample
			one.set(&c)
			if !plainForm(c) {
				getRefuses(t, plainPut(c))
				refused++
			}
		}
	}
	if refused < 1000 {
		t.Error("too few that aren't in form:", refused)
	}
}

// spoilt is the pieces with some of them drawn anew.
func spoilt(r *rand.Rand, all []piece) []piece {
	for range 1 + r.IntN(3) {
		i := r.IntN(len(all))
		switch p := &all[i]; {
		case r.IntN(10) == 0:
			all = slices.Delete(all, i, i+1)
		case !p.isRaw:
			p.number = r.Uint64() >> r.IntN(64)
		case len(p.raw) > 0:
			p.raw = with(p.raw, r.IntN(len(p.raw)), byte(r.Uint32()))
		}
	}
	return all
}

// P10.1, P10.2: drawn commands' bytes, spoilt here and there, held against another implementation.
func TestSpoiltBytes(t *testing.T) {
	r := source()
	taken := 0
	for range 30000 {
		if getsAsPlain(t, joined(spoilt(r, pieces(drawn(r))))) {
			taken++
		}
	}
	if taken < 1000 {
		t.Error("too few commands among them:", taken)
	}
}

// P10.1: bytes that are nothing.
func TestNoCommands(t *testing.T) {
	r := source()
	for i := range 20000 {
		b := make([]byte, i%300)
		for k := range b {
			b[k] = byte(r.Uint32() >> (r.IntN(4) * 8))
		}
		getsAsPlain(t, b)
		readsAsPlain(t, b)
		readsAsPlain(t, plainSealed(b))
	}
	for n := range 300 {
		for _, fill := range []byte{0, 1, 3, 11, 127, 128, 255} {
			getsAsPlain(t, bytes.Repeat([]byte{fill}, n))
			readsAsPlain(t, bytes.Repeat([]byte{fill}, n))
			readsAsPlain(t, plainSealed(bytes.Repeat([]byte{fill}, n)))
		}
	}
}
