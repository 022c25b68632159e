package uri

import (
	"fmt"
	"strings"
	"testing"
)

// P17.1: Encode of texts by hand.
func TestEncode(t *testing.T) {
	for _, slash := range []bool{true, false} {
		encoded(t, "", slash, "")
		encoded(t, "a", slash, "a")
		encoded(t, "AZaz09-_.~", slash, "AZaz09-_.~")
		encoded(t, " ", slash, "%20")
		encoded(t, "+", slash, "%2B")
		encoded(t, "%", slash, "%25")
		encoded(t, "%41", slash, "%2541")
		encoded(t, "%2F", slash, "%252F")
		encoded(t, "a=b&c?d", slash, "a%3Db%26c%3Fd")
		encoded(t, "@[`{", slash, "%40%5B%60%7B")
		encoded(t, ",:;!*'()", slash, "%2C%3A%3B%21%2A%27%28%29")
		encoded(t, "\x00\x0f\x10\x7f\x80\xff", slash, "%00%0F%10%7F%80%FF")
		encoded(t, "ä€", slash, "%C3%A4%E2%82%AC")
		encoded(t, "\xc3", slash, "%C3")
		encoded(t, "\xed\xa0\x80\xf8", slash, "%ED%A0%80%F8")
		encoded(t, "\uFFFD\xff", slash, "%EF%BF%BD%FF")
	}
	encoded(t, "/", true, "/")
	encoded(t, "/", false, "%2F")
	encoded(t, "//a/", true, "//a/")
	encoded(t, "//a/", false, "%2F%2Fa%2F")
	encoded(t, "/.\\-", true, "/.%5C-")
}

// isAsItIs tells by its place alone whether a byte is a plain one.
func isAsItIs(c int) bool {
	return c >= 48 && c <= 57 || c >= 65 && c <= 90 || c >= 97 && c <= 122 || c == 45 || c == 46 || c == 95 || c == 126
}

// P17.1: Encode of each byte, alone and among others.
func TestEncodeBytes(t *testing.T) {
	n := 0
	for c := range 256 {
		s := string([]byte{byte(c)})
		for _, slash := range []bool{true, false} {
			want := fmt.Sprintf("%%%X%X", c/16, c%16)
			if isAsItIs(c) || c == 47 && slash {
				want = s
				n++
			}
			encoded(t, s, slash, want)
			encoded(t, "a"+s, slash, "a"+want)
			encoded(t, s+"b", slash, want+"b")
			encoded(t, s+s, slash, want+want)
			encoded(t, "% "+s+"\xff", slash, "%25%20"+want+"%FF")
		}
	}
	holds(t, n == 2*66+1, "bytes that are as they are:", n)
}

// P17.1: Encode of long texts.
func TestEncodeLong(t *testing.T) {
	all := between(0, 255)
	for _, n := range []int{1, 7, 1000, 20000} {
		for _, slash := range []bool{true, false} {
			one := plainEncode(all, slash)
			holds(t, Encode(strings.Repeat(all, n), slash) == strings.Repeat(one, n), "Encode of", n, "times all bytes")
			encoded(t, strings.Repeat("a", n), slash, strings.Repeat("a", n))
			encoded(t, strings.Repeat(" ", n), slash, strings.Repeat("%20", n))
		}
	}
}

// P17.1: what is encoded has plain bytes, "/" and "%" alone, and is decoded to what it was if that is good.
func TestEncodeDrawn(t *testing.T) {
	r := source()
	for range 20000 {
		for _, of := range []string{between(0, 255), between(32, 126), telling} {
			s := drawnText(r, of, r.IntN(20))
			for _, slash := range []bool{true, false} {
				out := Encode(s, slash)
				encoded(t, s, slash, plainEncode(s, slash))
				holds(t, strings.Trim(out, plainBytes+"%/") == "" && (slash || !strings.Contains(out, "/")), "Encode of", text(s), slash, text(out))
				good := true
				for _, c := range []byte(s) {
					good = good && goodByte(int(c))
				}
				judged(t, "/"+out, good, "/"+s)
			}
		}
	}
}
