package post

import (
	"bollard/api"
	"bytes"
	"math"
	"slices"
	"testing"
)

// inPlace are the pieces with the one at the place changed to others.
func inPlace(all []piece, place int, others ...piece) []piece {
	return slices.Concat(all[:place], others, all[place+1:])
}

// sealedPieces are the bytes of pieces, sealed, so that only what they say can be refused.
func sealedPieces(all []piece) []byte { return plainSealed(joined(all)) }

// P15.1: no bytes, up to three of any kind, and four.
func TestFewBytes(t *testing.T) {
	getRefuses(t, nil, api.ErrBytes)
	getRefuses(t, []byte{}, api.ErrBytes)
	for a := range 256 {
		getRefuses(t, []byte{byte(a)}, api.ErrBytes)
		for b := range 256 {
			getRefuses(t, []byte{byte(a), byte(b)}, api.ErrBytes)
			getRefuses(t, []byte{byte(a), byte(b), byte(a ^ b)}, api.ErrBytes)
			getRefuses(t, []byte{byte(a), byte(b), 0, 0}, api.ErrDigest)
			getRefuses(t, plainSealed([]byte{byte(a), byte(b)}), api.ErrBytes)
		}
		getRefuses(t, plainSealed([]byte{byte(a)}), api.ErrBytes)
	}
	getRefuses(t, plainSealed(nil), api.ErrBytes)
}

// P15.1: bytes that are cut short at every place: below four they are ErrBytes, else ErrDigest; sealed again, ErrBytes.
func TestCutShort(t *testing.T) {
	for _, m := range append(middles(), samples()...) {
		b := put(t, m)
		plain := b[:len(b)-4]
		for n := range b {
			want := api.ErrDigest
			if n < 4 {
				want = api.ErrBytes
			}
			getRefuses(t, b[:n], want)
		}
		for n := range plain {
			if n < 200 || n > len(plain)-10 || n%97 == 0 {
				getRefuses(t, plainSealed(plain[:n]), api.ErrBytes)
			}
		}
	}
}

// P15.1: bytes with others ahead or behind.
func TestBytesBehind(t *testing.T) {
	for _, m := range append(middles(), samples()...) {
		b := put(t, m)
		plain := b[:len(b)-4]
		for more := range 256 {
			getRefuses(t, append(bytes.Clone(b), byte(more)), api.ErrDigest)
			getRefuses(t, plainSealed(append(bytes.Clone(plain), byte(more))), api.ErrBytes)
			if len(b) < 200 {
				getsAsPlain(t, append([]byte{byte(more)}, b...))
				getsAsPlain(t, plainSealed(append([]byte{byte(more)}, plain...)))
			}
		}
		getRefuses(t, plainSealed(b), api.ErrBytes)
		getRefuses(t, plainSealed(append(bytes.Clone(plain), plain...)), api.ErrBytes)
		getRefuses(t, append(bytes.Clone(b), 0, 0, 0, 0), api.ErrDigest)
	}
}

// P15.2: bytes with one byte changed to each other one are refused by their sum.
func TestOneByteChanged(t *testing.T) {
	for _, m := range middles() {
		b := put(t, m)
		for i := range b {
			for range 255 {
				b[i]++
				getRefuses(t, b, api.ErrDigest)
			}
			b[i]++
		}
		holds(t, bytes.Equal(b, plainPut(m)), "the test leaves the bytes changed")
	}
}

// P15.2: of the longest messages too, at every place.
func TestOneBitTurned(t *testing.T) {
	for _, m := range samples() {
		b := put(t, m)
		for i := range b {
			b[i] ^= 1 << (i % 8)
			getRefuses(t, b, api.ErrDigest)
			b[i] ^= 1 << (i % 8)
		}
	}
}

// P15.1, P15.2: one byte changed to each other one, and sealed again, held against another implementation.
func TestChangedAndSealed(t *testing.T) {
	taken := 0
	for _, m := range middles() {
		plain := joined(pieces(m))
		for i := range plain {
			for range 255 {
				plain[i]++
				if getsAsPlain(t, plainSealed(plain)) {
					taken++
				}
			}
			plain[i]++
		}
	}
	holds(t, taken > 1000, "too few messages among them:", taken)
}

// P15.1: a wrong sum is told ahead of all else that is wrong.
func TestSumFirst(t *testing.T) {
	bad := api.Message{Kind: 10, From: 16}
	for _, plain := range [][]byte{{}, {1}, {128, 0}, joined(pieces(bad)), joined(piecesWith(middles()[2], nil)), bytes.Repeat([]byte{255}, 40)} {
		b := plainSealed(plain)
		getRefuses(t, b, api.ErrBytes)
		for i := range 4 {
			b[len(plain)+i]++
			getRefuses(t, b, api.ErrDigest)
			b[len(plain)+i]--
		}
	}
}

// P15.1: each number written longer than need be, by one group and by as many as there can be.
func TestLongNumbers(t *testing.T) {
	for _, m := range append(middles(), fewSamples()...) {
		all := pieces(m)
		for i, p := range all {
			if p.isRaw {
				continue
			}
			for more := range 10 {
				long := p.bytes()
				long[len(long)-1] |= 128
				long = append(append(long, bytes.Repeat([]byte{128}, more)...), 0)
				getRefuses(t, sealedPieces(inPlace(all, i, piece{raw: long, isRaw: true})), api.ErrBytes)
			}
		}
	}
}

// fewSamples are the samples without the longest frames.
func fewSamples() []api.Message {
	return slices.DeleteFunc(samples(), func(m api.Message) bool { return len(m.Frame) > 100 })
}

// otherNumbers are both sides of every edge that a number may have.
func otherNumbers() []uint64 {
	var out []uint64
	for _, n := range []uint64{1, 9, 15, 16, 64, 65, 127, 128, 200, 256, 4096, 1 << 14, 1 << 32, 1 << 35, maxTime, 1 << 49, 1 << 62, math.MaxInt64, 1 << 63, math.MaxUint64 - 1} {
		out = append(out, n-1, n, n+1)
	}
	return out
}

// P15.1: each number changed to another one, each piece taken away and doubled, and sealed again, held against another implementation.
func TestOtherNumbers(t *testing.T) {
	taken := 0
	for _, m := range append(middles(), fewSamples()...) {
		all := pieces(m)
		for i, p := range all {
			getsAsPlain(t, sealedPieces(inPlace(all, i)))
			getsAsPlain(t, sealedPieces(inPlace(all, i, p, p)))
			if p.isRaw {
				continue
			}
			for _, n := range otherNumbers() {
				if getsAsPlain(t, sealedPieces(inPlace(all, i, piece{number: n}))) {
					taken++
				}
			}
		}
	}
	holds(t, taken > 1000, "too few messages among them:", taken)
}

// P15.1: the numbers of the greatest and the least ints, and of those that differ from a good one by 2^32 or 2^56 alone.
func TestWrappedNumbers(t *testing.T) {
	for _, m := range middles() {
		all := pieces(m)
		for i, p := range all {
			if p.isRaw {
				continue
			}
			for _, add := range []uint64{1 << 41, 1 << 56, 1 << 57, 1 << 62, 1 << 63} {
				getRefuses(t, sealedPieces(inPlace(all, i, piece{number: p.number + add})), api.ErrBytes)
			}
		}
	}
}

// P15.1: an OK that is neither 0 nor 1, of each kind.
func TestOtherOK(t *testing.T) {
	for _, m := range middles() {
		for _, n := range []uint64{2, 3, 4, 10, 127, 128, 129, 255, 256, 257, 1 << 32, 1<<32 + 1, 1 << 40, math.MaxInt64, 1 << 63, math.MaxUint64} {
			for _, ok := range []bool{false, true} {
				m.OK = ok
				getRefuses(t, sealedPieces(inPlace(pieces(m), okPlace, piece{number: n})), api.ErrBytes)
			}
		}
	}
}

// P15.1: lengths of the ledger's bytes and the frame's that aren't theirs: far too long ones end too.
func TestOtherLengths(t *testing.T) {
	for _, m := range append(middles(), fewSamples()...) {
		all := pieces(m)
		for _, place := range []int{ledgerPlace, framePlace} {
			length := all[place].number
			for _, n := range []uint64{length + 1, length + 2, length + 5, length - 1, length / 2, 4097, 1 << 31, 1 << 32, 1<<32 + length, 1 << 62, math.MaxInt64, 1 << 63, math.MaxUint64} {
				if n != length {
					getRefuses(t, sealedPieces(inPlace(all, place, piece{number: n})), api.ErrBytes)
				}
			}
		}
	}
}

// P15.1: the lists as they are, but in another order, and one in the place of both.
func TestOtherLists(t *testing.T) {
	m := api.Message{Kind: api.MsgFetched, OK: true, Frame: plainWrite(nil)}
	judged(t, m, true)
	m.Frame = plainWrite(commands())
	judged(t, m, true)
	all := pieces(m)
	head := all[:ledgerPlace]
	getRefuses(t, sealedPieces(slices.Concat(head, all[framePlace:], all[ledgerPlace:framePlace])), api.ErrBytes)
	getRefuses(t, sealedPieces(all[:framePlace]), api.ErrBytes)
	getRefuses(t, sealedPieces(slices.Concat(head, all[framePlace:])), api.ErrBytes)
	getRefuses(t, sealedPieces(head), api.ErrBytes)
	getRefuses(t, sealedPieces(slices.Concat(all, all[framePlace:])), api.ErrBytes)
}

// P15.1: sealed bytes of messages that aren't in form, each well written.
func TestBytesNotInForm(t *testing.T) {
	refused := 0
	for _, sample := range append(middles(), fewSamples()...) {
		for _, one := range allChanges() {
			m := sample
			one.set(&m)
			if !wanted(sample, one) {
				getRefuses(t, plainPut(m), api.ErrBytes)
				refused++
			}
		}
	}
	holds(t, refused > 10000, "too few that aren't in form:", refused)
}
