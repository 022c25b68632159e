package post

import (
	"bollard/api"
	"bytes"
	"math/rand/v2"
	"slices"
	"testing"
)

// P15.2: of each kind the least, some and the most are read back as they were written, and written again as they were.
func TestSamplesBack(t *testing.T) {
	seen := map[int]int{}
	for _, m := range append(samples(), middles()...) {
		seen[m.Kind]++
		b := put(t, m)
		got, err := Get(b)
		holds(t, err == nil && text(got) == text(m), "Get of Put of", text(m), text(got), err)
		holds(t, bytes.Equal(put(t, got), b), "Put of Get of", text(m))
	}
	holds(t, len(seen) == kinds, "kinds:", seen)
}

// P15.1, P15.2: drawn messages are in form, written as by another implementation, and read back.
func TestMessagesBack(t *testing.T) {
	r := source()
	seen := map[int]int{}
	for range 30000 {
		m := drawn(r)
		seen[m.Kind]++
		holds(t, Check(m) == nil && plainForm(m), "Check of", text(m))
		b := put(t, m)
		holds(t, bytes.Equal(b, plainPut(m)), "Put of", text(m))
		got, err := Get(b)
		holds(t, err == nil && text(got) == text(m), "Get of Put of", text(m), text(got), err)
		holds(t, bytes.Equal(put(t, got), b), "Put of Get of", text(m))
	}
	holds(t, len(seen) == kinds, "kinds that were drawn:", seen)
}

// P15.2: frames of each size, and with each byte, are read back.
func TestFramesBack(t *testing.T) {
	r := source()
	for n := range maxFrame + 1 {
		m := only(api.MsgStore+3*(n%2), fulls()[1])
		m.Frame = someBytes(r, n)
		got, err := Get(put(t, m))
		holds(t, err == nil && bytes.Equal(got.Frame, m.Frame) && got.OK == m.OK && got.Blob == m.Blob, "Get of Put with a frame of", n, "bytes:", err)
	}
	for c := range 256 {
		m := only(api.MsgStore, fulls()[1])
		m.Frame = []byte{byte(c)}
		judged(t, m, true)
	}
}

// spoilt is the pieces with some of them drawn anew.
func spoilt(r *rand.Rand, all []piece) []piece {
	for range 1 + r.IntN(3) {
		i := r.IntN(len(all))
		switch p := &all[i]; {
		case r.IntN(10) == 0:
			all = slices.Delete(all, i, i+1)
		case !p.isRaw && r.IntN(3) == 0:
			p.number = uint64(r.IntN(17))
		case !p.isRaw:
			p.number = r.Uint64() >> r.IntN(64)
		case len(p.raw) > 0:
			p.raw = bytes.Clone(p.raw)
			p.raw[r.IntN(len(p.raw))] = byte(r.Uint32())
		}
	}
	return all
}

// P15.1, P15.2: drawn messages' bytes, spoilt here and there and sealed, held against another implementation.
func TestSpoiltBytes(t *testing.T) {
	r := source()
	taken := 0
	for range 30000 {
		if getsAsPlain(t, sealedPieces(spoilt(r, pieces(drawn(r))))) {
			taken++
		}
	}
	holds(t, taken > 1000, "too few messages among them:", taken)
}

// P15.1: drawn rows of bytes, sealed, held against another implementation.
func TestDrawnBytes(t *testing.T) {
	r := source()
	for range 20000 {
		b := someBytes(r, r.IntN(60))
		for i := range b {
			b[i] >>= r.IntN(9)
		}
		getsAsPlain(t, plainSealed(b))
		getsAsPlain(t, b)
	}
}

// P15.1: drawn messages with fields of another one's kind, held against another implementation.
func TestMixedFields(t *testing.T) {
	r := source()
	taken := 0
	for range 30000 {
		m, other := drawn(r), drawn(r)
		for range 1 + r.IntN(2) {
			switch r.IntN(8) {
			case 0:
				m.Kind = other.Kind
			case 1:
				m.Ballot = other.Ballot
			case 2:
				m.Accepted = other.Accepted
			case 3:
				m.Ledger = other.Ledger
			case 4:
				m.Blob = other.Blob
			case 5:
				m.OK = other.OK
			case 6:
				m.Frame = other.Frame
			case 7:
				m.From, m.To = m.To-other.To, m.From+other.From
			}
		}
		want := plainForm(m)
		judged(t, m, want)
		if want {
			taken++
		}
	}
	holds(t, taken > 3000 && taken < 27000, "too few of one kind among them:", taken)
}
