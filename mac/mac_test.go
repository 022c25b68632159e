package mac

import (
	"bytes"
	"crypto/hmac"
	"crypto/sha256"
	"encoding/hex"
	"math/rand/v2"
	"strings"
	"testing"
)

// known are codes that stand in the chapter or are published with the algorithm.
var known = []struct {
	key, message, code string
}{
	{"key", "The quick brown fox jumps over the lazy dog", "f7bc83f430538424b13298e6aa6fb143ef4d59a14946175997479dbc2d1a3cd8"},
	{"", "", "b613679a0814d9ec772f95d778c35fc5ff1697c493715653c6c712144292c5ad"},
	{strings.Repeat("\x0b", 20), "Hi There", "b0344c61d8db38535ca8afceaf0bf12b881dc200c9833da726e9376c2e32cff7"},
	{"Jefe", "what do ya want for nothing?", "5bdcc146bf60754e6a042426089575c75a003f089d2739839dec58b964ec3843"},
	{strings.Repeat("\xaa", 20), strings.Repeat("\xdd", 50), "773ea91e36800e46854db8ebd09181a72959098b3ef8c122d9635514ced565fe"},
	{strings.Repeat("\xaa", 131), "Test Using Larger Than Block-Size Key - Hash Key First", "60e431591ee0b67f0d8a26aacbf5b77f8e0bc6213728c5140546040f0ee37f54"},
	{strings.Repeat("\xaa", 131), "This is a test using a larger than block-size key and a larger than block-size data. The key needs to be hashed before being used by the HMAC algorithm.", "9b09ffa71b942fcb27635fbcd5b0e944bfdc63644f0713938a7f51535c3a35e2"},
}

// source gives the same bytes on every run.
func source() *rand.Rand { return rand.New(rand.NewPCG(4, 64)) }

func someBytes(r *rand.Rand, n int) []byte {
	out := make([]byte, n)
	for i := range out {
		out[i] = byte(r.Uint32())
	}
	return out
}

// code is another implementation's.
func code(key, message []byte) []byte {
	h := hmac.New(sha256.New, key)
	h.Write(message)
	return h.Sum(nil)
}

// holds asks that Sum is the code of the message under the key.
func holds(t *testing.T, key, message []byte) {
	t.Helper()
	if got, want := Sum(key, message), code(key, message); !bytes.Equal(got[:], want) {
		t.Fatalf("Sum of a key of %d bytes and %d bytes: %x, want %x", len(key), len(message), got, want)
	}
}

// P4.1: codes that are known.
func TestKnown(t *testing.T) {
	for _, k := range known {
		got := Sum([]byte(k.key), []byte(k.message))
		if hex.EncodeToString(got[:]) != k.code {
			t.Errorf("Sum of %q and %q: %x", k.key, k.message, got)
		}
	}
}

// P4.1: a key and a message of no bytes, as nil and as empty lists.
func TestNothing(t *testing.T) {
	want := Sum([]byte{}, []byte{})
	if Sum(nil, nil) != want || Sum(nil, []byte{}) != want || Sum([]byte{}, nil) != want {
		t.Error("nil isn't no bytes")
	}
	for _, b := range [][]byte{nil, {}, {0}, {1}, make([]byte, 64), make([]byte, 65)} {
		holds(t, nil, b)
		holds(t, b, nil)
		holds(t, []byte{}, b)
		holds(t, b, []byte{})
	}
}

// P4.1: keys of every length to some blocks, 63, 64 and 65 bytes among them, and of many more.
func TestKeyLengths(t *testing.T) {
	r := source()
	for n := range 300 {
		for _, key := range [][]byte{make([]byte, n), bytes.Repeat([]byte{innerMark}, n), bytes.Repeat([]byte{outerMark}, n), bytes.Repeat([]byte{255}, n), someBytes(r, n)} {
			for _, length := range []int{0, 1, 32, 55, 56, 63, 64, 65, 200} {
				holds(t, key, someBytes(r, length))
			}
		}
	}
	for _, n := range []int{1023, 1024, 1025, 1 << 16, 1<<20 + 1} {
		holds(t, someBytes(r, n), someBytes(r, 100))
	}
}

// P4.1: messages of every length to some blocks, and of many more.
func TestMessageLengths(t *testing.T) {
	r := source()
	keys := [][]byte{nil, someBytes(r, 3), someBytes(r, 63), someBytes(r, 64), someBytes(r, 65), someBytes(r, 200)}
	for _, key := range keys {
		for n := range 300 {
			holds(t, key, someBytes(r, n))
		}
		for _, n := range []int{1023, 1024, 1025, 1 << 16, 1<<20 + 1} {
			holds(t, key, someBytes(r, n))
		}
	}
}

// P4.1: every bit of a key and of a message tells.
func TestEveryBit(t *testing.T) {
	r := source()
	for _, n := range []int{1, 63, 64, 65, 130} {
		key, message := someBytes(r, n), someBytes(r, n)
		first := Sum(key, message)
		for _, list := range [][]byte{key, message} {
			for i := range 8 * n {
				list[i/8] ^= 1 << (i % 8)
				holds(t, key, message)
				if Sum(key, message) == first {
					t.Fatalf("bit %d of %d bytes doesn't tell", i, n)
				}
				list[i/8] ^= 1 << (i % 8)
			}
		}
	}
}

// P4.1: key and message are two: a byte that goes from one to the other, and the two in each other's place, make another code.
func TestKeyAndMessageApart(t *testing.T) {
	seen := map[[32]byte]int{}
	b := []byte("abcdefgh")
	for cut := range b {
		seen[Sum(b[:cut], b[cut:])]++
		seen[Sum(b[cut:], b[:cut])]++
	}
	if len(seen) != 2*len(b) {
		t.Error("codes of unlike keys and messages are alike:", len(seen))
	}
}

// P4.1: a key of more than 64 bytes counts as its digest; one of 64 or fewer doesn't.
func TestLongKeys(t *testing.T) {
	r := source()
	message := []byte("message")
	for n := range 300 {
		key := someBytes(r, n)
		short := sha256.Sum256(key)
		if same := Sum(key, message) == Sum(short[:], message); same != (n > 64) {
			t.Fatalf("a key of %d bytes counts as its digest: %v", n, same)
		}
	}
}

// P4.2: a key of 64 bytes or fewer and the same with bytes 0 behind, up to 64, have the same codes.
func TestKeysWithNoughts(t *testing.T) {
	r := source()
	for n := range 65 {
		key := someBytes(r, n)
		for _, message := range [][]byte{nil, []byte("m"), someBytes(r, 64), someBytes(r, 129)} {
			want := Sum(key, message)
			for longer := n; longer <= 64; longer++ {
				if Sum(append(bytes.Clone(key), make([]byte, longer-n)...), message) != want {
					t.Fatalf("a key of %d bytes, filled up to %d, has another code", n, longer)
				}
			}
			if Sum(append(bytes.Clone(key), make([]byte, 65-n)...), message) == want {
				t.Fatalf("a key of %d bytes, filled up to 65, has the same code", n)
			}
		}
	}
}

// P4.2: bytes 0 ahead of a key, and behind a message, are no filling.
func TestNoughtsElsewhere(t *testing.T) {
	want := Sum([]byte("k"), []byte("m"))
	if Sum([]byte("\x00k"), []byte("m")) == want || Sum([]byte("k"), []byte("m\x00")) == want || Sum([]byte("k"), []byte("\x00m")) == want {
		t.Error("a byte 0 is left out")
	}
}

// sames are rows of bytes no two of which are the same.
func sames() [][]byte {
	return [][]byte{
		{}, {0}, {1}, {255}, {0, 0}, {0, 1}, {1, 0}, {1, 1}, {2, 3}, {3, 2}, {1, 2, 3}, {0, 1, 2, 3}, {1, 2, 3, 0},
		make([]byte, 32), bytes.Repeat([]byte{1}, 32), make([]byte, 33), bytes.Repeat([]byte{128}, 256), bytes.Repeat([]byte{128}, 257), make([]byte, 256), make([]byte, 512),
	}
}

// P4.1: Same of equal and of unequal bytes, of like and of unlike lengths.
func TestSame(t *testing.T) {
	for i, a := range sames() {
		for j, b := range sames() {
			if Same(a, b) != (i == j) {
				t.Errorf("Same(%v, %v) isn't %v", a, b, i == j)
			}
		}
		if Same(a, nil) != (len(a) == 0) || Same(nil, a) != (len(a) == 0) {
			t.Errorf("Same of %v and nil", a)
		}
		if !Same(a, a) {
			t.Errorf("%v isn't the same as itself", a)
		}
	}
	if !Same(nil, nil) {
		t.Error("nil isn't the same as nil")
	}
}

// P4.1: every two bytes.
func TestSameOfOne(t *testing.T) {
	for i := range 256 {
		for j := range 256 {
			if Same([]byte{byte(i)}, []byte{byte(j)}) != (i == j) {
				t.Fatal("Same of", i, "and", j)
			}
		}
	}
}

// P4.1: one bit is enough to be unlike, wherever it stands, the first byte and the last among them; and where two differ alike.
func TestSameBits(t *testing.T) {
	r := source()
	for _, n := range []int{1, 2, 31, 32, 33, 64, 100} {
		a := someBytes(r, n)
		for i := range 8 * n {
			b := bytes.Clone(a)
			b[i/8] ^= 1 << (i % 8)
			if Same(a, b) || Same(b, a) {
				t.Fatalf("bit %d of %d bytes doesn't tell", i, n)
			}
			b[(i/8+1)%n] ^= 1 << (i % 8)
			if n > 1 && Same(a, b) {
				t.Fatalf("bit %d of two of %d bytes doesn't tell", i, n)
			}
		}
		if !Same(a, bytes.Clone(a)) {
			t.Fatalf("%d equal bytes aren't the same", n)
		}
		if Same(a, a[:n-1]) || Same(a[:n-1], a) || Same(a, append(bytes.Clone(a), 0)) {
			t.Fatalf("%d bytes are the same as one more or fewer", n)
		}
	}
}

// Rule 8: a code hangs on the key and the message alone, whatever was asked between.
func TestAgain(t *testing.T) {
	for range 3 {
		for _, k := range known {
			holds(t, []byte(k.key), []byte(k.message))
			Derive(k.key, k.message, "other")
			Sum([]byte(k.message), []byte(k.key))
			holds(t, []byte(k.key), []byte(k.message))
		}
	}
}
