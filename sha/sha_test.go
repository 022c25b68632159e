package sha

import (
	"bytes"
	"crypto/sha256"
	"encoding/hex"
	"math/rand/v2"
	"strings"
	"testing"
)

// known are digests that stand in the chapter or are published with the algorithm; the bytes are text, so often.
var known = []struct {
	text   string
	times  int
	digest string
}{
	{"", 1, "e3b0c44298fc1c149afbf4c8996fb92427ae41e4649b934ca495991b7852b855"},
	{"abc", 1, "ba7816bf8f01cfea414140de5dae2223b00361a396177a9cb410ff61f20015ad"},
	{"abcdbcdecdefdefgefghfghighijhijkijkljklmklmnlmnomnopnopq", 1, "248d6a61d20638b8e5c026930c3e6039a33ce45964ff2167f6ecedd419db06c1"},
	{"abcdefghbcdefghicdefghijdefghijkefghijklfghijklmghijklmnhijklmnoijklmnopjklmnopqklmnopqrlmnopqrsmnopqrstnopqrstu", 1, "cf5b16a778af8380036ce59e7b0492370b249b11e8f07a51afac45037afee9d1"},
	{"a", 1000000, "cdc76e5c9914fb9281a1c7e284d73e67f1809a48a497200e046d39ccc7112cd0"},
	{"hello", 1, "2cf24dba5fb0a30e26e83b2ac5b9e29e1b161e5c1fa7425e73043362938b9824"},
}

// source gives the same bytes on every run.
func source() *rand.Rand { return rand.New(rand.NewPCG(3, 256)) }

func someBytes(r *rand.Rand, n int) []byte {
	out := make([]byte, n)
	for i := range out {
		out[i] = byte(r.Uint32())
	}
	return out
}

// holds asks that a digest is that of the bytes.
func holds(t *testing.T, what string, got [32]byte, b []byte) {
	t.Helper()
	if want := sha256.Sum256(b); got != want {
		t.Fatalf("%s: %d bytes: %x, want %x", what, len(b), got, want)
	}
}

// P3.1: Sum is the digest, also of a hash.
func TestKnown(t *testing.T) {
	for _, k := range known {
		b := []byte(strings.Repeat(k.text, k.times))
		sum := Sum(b)
		if got := hex.EncodeToString(sum[:]); got != k.digest {
			t.Errorf("Sum of %d times %q: %s", k.times, k.text, got)
		}
		if got := Hex(sum[:]); got != k.digest {
			t.Errorf("Hex of the Sum of %d times %q: %s", k.times, k.text, got)
		}
		h := New()
		for range k.times {
			h.Write([]byte(k.text))
		}
		if h.Sum() != sum || h.Len() != len(b) {
			t.Errorf("a hash of %d times %q: %x of %d", k.times, k.text, h.Sum(), h.Len())
		}
	}
}

// P3.1: nil is no bytes.
func TestNothing(t *testing.T) {
	holds(t, "Sum of nil", Sum(nil), nil)
	holds(t, "Sum of an empty list", Sum([]byte{}), nil)
	h := New()
	holds(t, "a new hash", h.Sum(), nil)
	if h.Len() != 0 {
		t.Error("a new hash was given", h.Len())
	}
	h.Write(nil)
	h.Write([]byte{})
	holds(t, "a hash that was given no bytes", h.Sum(), nil)
	if h.Len() != 0 {
		t.Error("a hash that was given no bytes was given", h.Len())
	}
}

// P3.1: every length up to some blocks, so that each turn of the filling is met: 55, 56, 63, 64, 119, 120, 128 bytes.
func TestLengths(t *testing.T) {
	r := source()
	for n := range 400 {
		for _, b := range [][]byte{make([]byte, n), bytes.Repeat([]byte{128}, n), bytes.Repeat([]byte{255}, n), someBytes(r, n), someBytes(r, n)} {
			holds(t, "Sum", Sum(b), b)
			h := New()
			h.Write(b)
			holds(t, "Sum of a hash", h.Sum(), b)
			if h.Len() != n {
				t.Fatalf("Len is %d behind %d bytes", h.Len(), n)
			}
		}
	}
	for _, n := range []int{1023, 1024, 1025, 4095, 4096, 4097, 65536, 1<<20 + 55, 1<<20 + 56} {
		b := someBytes(r, n)
		holds(t, "Sum", Sum(b), b)
	}
}

// P3.1: every bit of a message tells.
func TestEveryBit(t *testing.T) {
	b := someBytes(source(), 130)
	for i := range 8 * len(b) {
		b[i/8] ^= 1 << (i % 8)
		holds(t, "Sum with a turned bit", Sum(b), b)
	}
}

// P3.1: the number of bits is one of eight bytes: it goes past 2^32 here.
func TestLong(t *testing.T) {
	t.Parallel()
	piece := someBytes(source(), 1<<20)
	h, want := New(), sha256.New()
	for range 1<<29/len(piece) + 1 {
		h.Write(piece)
		want.Write(piece)
	}
	sum := h.Sum()
	if !bytes.Equal(sum[:], want.Sum(nil)) {
		t.Errorf("Sum of %d bytes: %x, want %x", h.Len(), sum, want.Sum(nil))
	}
	if h.Len() != 1<<29+1<<20 {
		t.Error("Len:", h.Len())
	}
}

// hashed is a hash with the bytes that it was given.
type hashed struct {
	hash  *Hash
	given []byte
}

func (h *hashed) write(b []byte) {
	h.hash.Write(b)
	h.given = append(h.given, b...)
}

// check asks for Sum and Len twice, in both orders: asking changes nothing.
func (h *hashed) check(t *testing.T) {
	t.Helper()
	for range 2 {
		holds(t, "Sum of a hash", h.hash.Sum(), h.given)
		if got := h.hash.Len(); got != len(h.given) {
			t.Fatalf("Len is %d behind %d bytes", got, len(h.given))
		}
	}
}

// P3.1: every row of five calls on two hashes: each holds what it was given itself.
func TestOrders(t *testing.T) {
	b := someBytes(source(), 65)
	calls := []func(t *testing.T, h *hashed){
		func(t *testing.T, h *hashed) { h.write(nil) },
		func(t *testing.T, h *hashed) { h.write(b[:1]) },
		func(t *testing.T, h *hashed) { h.write(b[:55]) },
		func(t *testing.T, h *hashed) { h.write(b) },
		func(t *testing.T, h *hashed) { holds(t, "Sum of a hash", h.hash.Sum(), h.given) },
	}
	const length = 5
	kinds := 2 * len(calls)
	rows := 1
	for range length {
		rows *= kinds
	}
	for row := range rows {
		both := []*hashed{{hash: New()}, {hash: New()}}
		for range length {
			call := row % kinds
			row /= kinds
			calls[call/2](t, both[call%2])
		}
		both[0].check(t)
		both[1].check(t)
	}
}

// P3.1: long rows of calls on many hashes, with others made in between.
func TestManyHashes(t *testing.T) {
	r := source()
	var all []*hashed
	for range 20000 {
		if len(all) == 0 || r.IntN(400) == 0 {
			all = append(all, &hashed{hash: New()})
		}
		h := all[r.IntN(len(all))]
		switch r.IntN(4) {
		case 0:
			h.check(t)
		case 1:
			b := someBytes(r, r.IntN(70))
			holds(t, "Sum", Sum(b), b)
		default:
			h.write(someBytes(r, r.IntN(140)))
		}
	}
	for _, h := range all {
		h.check(t)
	}
}

// P3.2: every cut of so many bytes into three pieces, some of them of no bytes, with and without a Sum at each cut.
func TestThreePieces(t *testing.T) {
	b := someBytes(source(), 193)
	for _, n := range []int{0, 1, 2, 55, 56, 63, 64, 65, 119, 120, 127, 128, 129, 193} {
		whole := Sum(b[:n])
		holds(t, "Sum", whole, b[:n])
		for first := range n + 1 {
			for second := first; second <= n; second++ {
				plain, asked := New(), New()
				for _, piece := range [][]byte{b[:first], b[first:second], b[second:n]} {
					plain.Write(piece)
					asked.Write(piece)
					asked.Sum()
				}
				if plain.Sum() != whole || asked.Sum() != whole || plain.Len() != n || asked.Len() != n {
					t.Fatalf("%d bytes cut at %d and %d aren't the whole", n, first, second)
				}
			}
		}
	}
}

// P3.2: pieces of one size each, and pieces of any sizes.
func TestManyPieces(t *testing.T) {
	r := source()
	b := someBytes(r, 700)
	whole := Sum(b)
	holds(t, "Sum", whole, b)
	for size := 1; size <= len(b); size++ {
		h := New()
		for at := 0; at < len(b); at += size {
			h.Write(b[at:min(at+size, len(b))])
		}
		if h.Sum() != whole || h.Len() != len(b) {
			t.Fatalf("pieces of %d bytes aren't the whole", size)
		}
	}
	for range 2000 {
		h := New()
		for at := 0; at < len(b); {
			n := min(r.IntN(r.IntN(200)+1), len(b)-at)
			h.Write(b[at : at+n])
			at += n
		}
		if h.Sum() != whole || h.Len() != len(b) {
			t.Fatal("pieces of any sizes aren't the whole")
		}
	}
}
