package sha

import (
	"bytes"
	"encoding/hex"
	"strings"
	"testing"
)

// refuses asks that Unhex takes no such text, and answers nothing beside the false.
func refuses(t *testing.T, s string) {
	t.Helper()
	if b, ok := Unhex(s); ok || b != nil {
		t.Fatalf("Unhex(%q) = %v, %v", s, b, ok)
	}
}

// reads asks that Unhex takes the text as these bytes.
func reads(t *testing.T, s string, want []byte) {
	t.Helper()
	if b, ok := Unhex(s); !ok || !bytes.Equal(b, want) {
		t.Fatalf("Unhex(%q) = %v, %v, want %v", s, b, ok, want)
	}
}

// P3.1, P3.3: Hex of every byte, and of every two.
func TestHex(t *testing.T) {
	for c := range 256 {
		one := []byte{byte(c)}
		want := string([]byte{"0123456789abcdef"[c/16], "0123456789abcdef"[c%16]})
		if got := Hex(one); got != want {
			t.Fatalf("Hex of %d: %q", c, got)
		}
		reads(t, want, one)
		for d := range 256 {
			two := []byte{byte(c), byte(d)}
			if got := Hex(two); got != hex.EncodeToString(two) {
				t.Fatalf("Hex of %v: %q", two, got)
			}
			reads(t, Hex(two), two)
		}
	}
}

// P3.1: no bytes are no digits.
func TestHexOfNothing(t *testing.T) {
	if Hex(nil) != "" || Hex([]byte{}) != "" {
		t.Error("Hex of no bytes:", Hex(nil), Hex([]byte{}))
	}
	reads(t, "", nil)
}

// P3.3: Unhex of Hex gives the bytes back, however many there are.
func TestBothWays(t *testing.T) {
	r := source()
	for n := range 300 {
		b := someBytes(r, n)
		s := Hex(b)
		if s != hex.EncodeToString(b) {
			t.Fatalf("Hex of %v: %q", b, s)
		}
		reads(t, s, b)
	}
}

// P3.1, P3.3: of all texts of two bytes Unhex takes those that Hex writes, and no other: no capitals, no signs, no bytes above 127.
func TestUnhexOfTwo(t *testing.T) {
	written := map[string]byte{}
	for c := range 256 {
		written[Hex([]byte{byte(c)})] = byte(c)
	}
	if len(written) != 256 {
		t.Fatal("Hex writes two bytes alike")
	}
	for i := range 1 << 16 {
		s := string([]byte{byte(i >> 8), byte(i)})
		if c, there := written[s]; there {
			reads(t, s, []byte{c})
			continue
		}
		refuses(t, s)
	}
}

// P3.1: an odd number of letters is refused, whatever they are.
func TestUnhexOdd(t *testing.T) {
	for c := range 256 {
		refuses(t, string([]byte{byte(c)}))
		refuses(t, string([]byte{'0', byte(c), '0'}))
		refuses(t, string([]byte{'a', 'f', byte(c)}))
	}
	for n := 1; n < 200; n += 2 {
		refuses(t, strings.Repeat("0", n))
		refuses(t, strings.Repeat("f", n))
	}
}

// P3.1: one letter that is no digit is enough to be refused, wherever it stands.
func TestUnhexPlaces(t *testing.T) {
	for place := range 64 {
		for c := range 256 {
			letters := []byte(strings.Repeat("0a", 32))
			letters[place] = byte(c)
			s := string(letters)
			if strings.IndexByte("0123456789abcdef", byte(c)) < 0 {
				refuses(t, s)
				continue
			}
			want, err := hex.DecodeString(s)
			if err != nil {
				t.Fatal(err)
			}
			reads(t, s, want)
		}
	}
}

// P3.1: texts that people might take for digits.
func TestUnhexStrange(t *testing.T) {
	for _, s := range []string{
		"0G", "abc", "AB", "aB", "Ab", "0x", "0x00", " 0", "0 ", "00 11", "00\n", "\n00\n", "+1", "-1", "--", "gg", "/0", "0:", "0`",
		"ab\x00\x00", "\x00\x00", "é", "0é", "é0", "\u0660", "\u0660\u0660", "\uff10\uff10", "\uff41\uff42", "\xff\xff", "\x80", "\xb0\xb1", "00\xc3\xa9",
	} {
		refuses(t, s)
	}
}
