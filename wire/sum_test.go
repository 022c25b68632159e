package wire

import (
	"bollard/api"
	"bytes"
	"encoding/binary"
	"hash/fnv"
	"testing"
)

// plainSum is another implementation's.
func plainSum(b []byte) uint32 {
	h := fnv.New32a()
	h.Write(b)
	return h.Sum32()
}

// sums are bytes to be summed: of no bytes, of every small length, and of many.
func sums() [][]byte {
	r := source()
	out := [][]byte{nil, {}, []byte("a"), []byte("foobar"), make([]byte, 100), bytes.Repeat([]byte{255}, 100)}
	for n := range 70 {
		out = append(out, someBytes(r, n))
	}
	return append(out, someBytes(r, 1024), someBytes(r, 100000))
}

// P5.1: sums that are known, and those of another implementation.
func TestSum(t *testing.T) {
	if Sum(nil) != 2166136261 || Sum([]byte{}) != 2166136261 || Sum([]byte("a")) != 3826002220 {
		t.Error("the chapter's sums:", Sum(nil), Sum([]byte{}), Sum([]byte("a")))
	}
	if Sum([]byte("foobar")) != 0xbf9cf968 {
		t.Error("Sum of foobar:", Sum([]byte("foobar")))
	}
	for _, b := range sums() {
		if Sum(b) != plainSum(b) {
			t.Errorf("Sum of %d bytes: %d", len(b), Sum(b))
		}
	}
	for i := range 256 {
		if b := []byte{byte(i)}; Sum(b) != plainSum(b) {
			t.Errorf("Sum of %x: %d", b, Sum(b))
		}
	}
}

// P5.1: sealed bytes are these and their sum, the highest byte first.
func TestSeal(t *testing.T) {
	if got := Seal(nil); string(got) != "\x81\x1c\x9d\xc5" {
		t.Errorf("Seal of no bytes: %x", got)
	}
	if got := Seal([]byte("a")); string(got) != "a\xe4\x0c\x29\x2c" {
		t.Errorf("Seal of a: %x", got)
	}
	for _, b := range sums() {
		if want := binary.BigEndian.AppendUint32(bytes.Clone(b), plainSum(b)); !bytes.Equal(Seal(b), want) {
			t.Errorf("Seal of %d bytes", len(b))
		}
	}
}

// refuses asks that Open answers the error and nothing else.
func refuses(t *testing.T, b []byte, want error) {
	t.Helper()
	if got, err := Open(b); got != nil || err != want {
		t.Fatalf("Open of %x: %x, %v, want %v", b[:min(len(b), 12)], got, err, want)
	}
}

// P5.3: Open of Seal gives the bytes back, those that are sealed more than once too.
func TestOpen(t *testing.T) {
	for _, b := range sums() {
		sealed := Seal(b)
		for range 3 {
			sealed = Seal(sealed)
		}
		for range 3 {
			inner, err := Open(sealed)
			if err != nil {
				t.Fatal("Open:", err)
			}
			sealed = inner
		}
		if got, err := Open(sealed); err != nil || !bytes.Equal(got, b) {
			t.Fatalf("Open of Seal of %d bytes: %d bytes, %v", len(b), len(got), err)
		}
	}
}

// P5.1: fewer than four bytes are ErrBytes, whatever they are; four that aren't the sum of none are ErrDigest.
func TestOpenOfFew(t *testing.T) {
	refuses(t, nil, api.ErrBytes)
	refuses(t, []byte{}, api.ErrBytes)
	sealed := Seal(nil)
	for n := 1; n < 4; n++ {
		refuses(t, make([]byte, n), api.ErrBytes)
		refuses(t, sealed[:n], api.ErrBytes)
		refuses(t, sealed[n:], api.ErrBytes)
	}
	for i := range 256 {
		refuses(t, []byte{byte(i)}, api.ErrBytes)
	}
	refuses(t, make([]byte, 4), api.ErrDigest)
	refuses(t, []byte{0xc5, 0x9d, 0x1c, 0x81}, api.ErrDigest)
	if got, err := Open(sealed); len(got) != 0 || err != nil {
		t.Errorf("Open of Seal of no bytes: %x, %v", got, err)
	}
}

// P5.3: one byte changed to each other one, at every place, the sum's own four among them.
func TestOpenOfChanged(t *testing.T) {
	for _, b := range sums() {
		if len(b) > 200 {
			continue
		}
		sealed := Seal(b)
		for i := range sealed {
			for add := 1; add < 256; add++ {
				sealed[i]++
				refuses(t, sealed, api.ErrDigest)
			}
			sealed[i]++
		}
		if got, err := Open(sealed); err != nil || !bytes.Equal(got, b) {
			t.Fatal("Open of what is as it was:", err)
		}
	}
}

// P5.3: one byte changed in many.
func TestOpenOfManyChanged(t *testing.T) {
	r := source()
	sealed := Seal(someBytes(r, 5000))
	for range 500 {
		i, turn := r.IntN(len(sealed)), byte(1+r.IntN(255))
		sealed[i] ^= turn
		refuses(t, sealed, api.ErrDigest)
		sealed[i] ^= turn
	}
	for _, i := range []int{0, 1, 4998, 4999, 5000, 5003} {
		sealed[i] ^= 128
		refuses(t, sealed, api.ErrDigest)
		sealed[i] ^= 128
	}
}

// P5.1: Open does what the other implementation's sum says, with a byte more or fewer ahead or behind.
func TestOpenOfOther(t *testing.T) {
	for _, b := range sums() {
		sealed := Seal(b)
		for _, other := range [][]byte{append(bytes.Clone(sealed), 0), append([]byte{0}, sealed...), sealed[1:], sealed[:len(sealed)-1]} {
			if len(other) < 4 {
				refuses(t, other, api.ErrBytes)
				continue
			}
			cut := len(other) - 4
			if binary.BigEndian.Uint32(other[cut:]) != plainSum(other[:cut]) {
				refuses(t, other, api.ErrDigest)
			}
		}
	}
}
