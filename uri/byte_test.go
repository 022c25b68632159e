package uri

import (
	"fmt"
	"strings"
	"testing"
)

// goodByte tells of which bytes a text may be once it is decoded.
func goodByte(c int) bool { return c >= 32 && c <= 126 }

// P17.1: each byte as it stands in a path.
func TestPathBytes(t *testing.T) {
	for c := range 256 {
		s := string([]byte{byte(c)})
		switch c {
		case '%':
			refused(t, "/%")
			refused(t, "/a%")
			refused(t, "/%b")
		case '?':
			taken(t, "/a?b", "/a", "b", "")
		default:
			judged(t, "/"+s, goodByte(c), "/"+s)
			judged(t, "/"+s+"b", goodByte(c), "/"+s+"b")
			judged(t, "/a"+s+"b", goodByte(c), "/a"+s+"b")
			judged(t, "/a"+s+"?x=1", goodByte(c), "/a"+s, "x", "1")
		}
	}
}

// P17.1: each byte as it stands in a name.
func TestNameBytes(t *testing.T) {
	for c := range 256 {
		s := string([]byte{byte(c)})
		switch c {
		case '%':
			refused(t, "/?%")
			refused(t, "/?a%=")
		case '&':
			taken(t, "/?a&b=1", "/", "a", "", "b", "1")
		case '=':
			taken(t, "/?a=b=1", "/", "a", "b=1")
		default:
			judged(t, "/?"+s, goodByte(c), "/", s, "")
			judged(t, "/?"+s+"=1", goodByte(c), "/", s, "1")
			judged(t, "/?a"+s+"b=1", goodByte(c), "/", "a"+s+"b", "1")
			judged(t, "/?x=1&"+s+"b&y", goodByte(c), "/", "x", "1", s+"b", "", "y", "")
		}
	}
}

// P17.1: each byte as it stands in a value.
func TestValueBytes(t *testing.T) {
	for c := range 256 {
		s := string([]byte{byte(c)})
		switch c {
		case '%':
			refused(t, "/?a=%")
			refused(t, "/?a=b%")
		case '&':
			taken(t, "/?a=b&c", "/", "a", "b", "c", "")
		default:
			judged(t, "/?a="+s, goodByte(c), "/", "a", s)
			judged(t, "/?a=b"+s+"c", goodByte(c), "/", "a", "b"+s+"c")
			judged(t, "/?="+s+"c", goodByte(c), "/", "", s+"c")
			judged(t, "/?x=1&a="+s+"&y", goodByte(c), "/", "x", "1", "a", s, "y", "")
		}
	}
}

// spellings are all ways to write a byte with "%".
func spellings(c int) []string {
	const small, great = "0123456789abcdef", "0123456789ABCDEF"
	var out []string
	for _, high := range []byte{small[c>>4], great[c>>4]} {
		for _, low := range []byte{small[c&15], great[c&15]} {
			out = append(out, string([]byte{'%', high, low}))
		}
	}
	return out
}

// P17.1: each byte as "%" with two digits, small and great, in a path, a name and a value.
func TestWrittenBytes(t *testing.T) {
	for c := range 256 {
		s := string([]byte{byte(c)})
		for _, w := range spellings(c) {
			judged(t, "/"+w, goodByte(c), "/"+s)
			judged(t, "/a"+w+"b", goodByte(c), "/a"+s+"b")
			judged(t, "/"+w+"?x", goodByte(c), "/"+s, "x", "")
			judged(t, "/"+w+w+"41", goodByte(c), "/"+s+s+"41")
			judged(t, "/?"+w, goodByte(c), "/", s, "")
			judged(t, "/?"+w+"=1", goodByte(c), "/", s, "1")
			judged(t, "/?a"+w+"b=1", goodByte(c), "/", "a"+s+"b", "1")
			judged(t, "/?x=1&"+w+"&y", goodByte(c), "/", "x", "1", s, "", "y", "")
			judged(t, "/?a="+w, goodByte(c), "/", "a", s)
			judged(t, "/?a=b"+w+"c", goodByte(c), "/", "a", "b"+s+"c")
			judged(t, "/?="+w+"&y", goodByte(c), "/", "", s, "y", "")
			judged(t, "/"+w+"?"+w+"="+w, goodByte(c), "/"+s, s, s)
		}
	}
}

// valueOf is the number of a digit, or -1.
func valueOf(c byte) int {
	place := strings.IndexByte("0123456789abcdefABCDEF", c)
	if place > 15 {
		place -= 6
	}
	return place
}

// P17.1: "%" with any two bytes behind it.
func TestAnyTwoBytes(t *testing.T) {
	for a := range 256 {
		for b := range 256 {
			high, low := valueOf(byte(a)), valueOf(byte(b))
			c := 16*high + low
			good := high >= 0 && low >= 0 && goodByte(c)
			w, s := string([]byte{'%', byte(a), byte(b)}), string([]byte{byte(c)})
			judged(t, "/"+w, good, "/"+s)
			judged(t, "/?"+w, good, "/", s, "")
			judged(t, "/?a="+w+"1", good, "/", "a", s+"1")
		}
	}
}

// P17.1: "%" at the end, or with one byte behind it.
func TestShortEnds(t *testing.T) {
	for _, form := range []string{"/W", "/a/W", "/W?", "/W?x=1", "/?W", "/?x=1&W", "/?W&x=1", "/?W=", "/?W=1", "/?=W", "/?a=W", "/?a=W&x=1", "/?a=1W", "/?%41W"} {
		refused(t, strings.ReplaceAll(form, "W", "%"))
		for c := range 256 {
			refused(t, strings.ReplaceAll(form, "W", string([]byte{'%', byte(c)})))
		}
	}
}

// P17.1: numbers as other texts write them are no digits here.
func TestNoDigits(t *testing.T) {
	for _, two := range []string{"+1", "-1", "1+", "1-", " 1", "1 ", "0x", "x0", "_1", "1_", "4.", ".4", "4%", "%4", "4/", "/4", "4:", ":4", "4@", "@4", "4`", "`4", "4g", "g4", "4G", "G4", "\x004", "4\x00", "\xff4", "4\xff"} {
		for _, behind := range []string{"", "1", "41", "%41"} {
			refused(t, "/%"+two+behind)
			refused(t, "/?%"+two+behind)
			refused(t, "/?a=%"+two+behind)
		}
	}
	for n := 32; n < 127; n++ {
		s := string([]byte{byte(n)})
		taken(t, fmt.Sprintf("/%%%02x5", n), "/"+s+"5")
		taken(t, fmt.Sprintf("/%%%02XF", n), "/"+s+"F")
	}
}
