package http

import (
	"bollard/api"
	"math/rand/v2"
	"strings"
	"testing"
)

// P16.3: a request that is written out as told is taken as it was, all its bytes.
func TestBack(t *testing.T) {
	r := source()
	for range 20000 {
		request := drawn(r)
		taken(t, written(request), request)
	}
}

// P16.3: so it is with great letters in names, and with other blanks about values.
func TestBackOtherwise(t *testing.T) {
	r := source()
	for range 20000 {
		request := drawn(r)
		taken(t, otherwise(r, request), request)
	}
}

// P16.2: bytes behind a request change nothing of it.
func TestBehind(t *testing.T) {
	r := source()
	for _, request := range samples() {
		s := written(request)
		for c := range 256 {
			parsed(t, s+string([]byte{byte(c)}), request, len(s), nil)
		}
		for _, other := range samples() {
			parsed(t, s+written(other), request, len(s), nil)
		}
		for range 200 {
			parsed(t, s+drawnText(r, between(0, 255), r.IntN(5000)), request, len(s), nil)
			parsed(t, s+drawnText(r, "\r\n:", r.IntN(30)), request, len(s), nil)
		}
	}
}

// P16.2: every strict beginning of drawn requests is neither a request nor an error.
func TestDrawnBeginnings(t *testing.T) {
	r := source()
	for range 300 {
		s := otherwise(r, drawn(r))
		for n := range len(s) {
			waits(t, s[:n])
		}
	}
}

// P16.2, P16.3: requests that stand one behind the other are taken one by one.
func TestOneByOne(t *testing.T) {
	r := source()
	for range 300 {
		var all []api.Request
		var s string
		for range 1 + r.IntN(8) {
			request := drawn(r)
			all = append(all, request)
			s += otherwise(r, request)
		}
		for _, want := range all {
			got, n, err := Parse([]byte(s))
			holds(t, err == nil && text(got) == text(want), "Parse of a request among others:", text(got), err)
			parsed(t, s, want, n, nil)
			s = s[n:]
		}
		waits(t, s)
		holds(t, s == "", "left behind all requests:", text(s))
	}
}

// stray are bytes that mean something in a head, and some that mean nothing.
const stray = " \t:\r\n/HG0159-,~\x00\x1f\x7f\x80\xff"

// spoilt is a text with some of its bytes changed, left out, put in, doubled or turned about.
func spoilt(r *rand.Rand, s string) string {
	for range 1 + r.IntN(3) {
		i := r.IntN(len(s) + 1)
		j := i + min(r.IntN(4), len(s)-i)
		switch r.IntN(5) {
		case 0:
			s = s[:i] + drawnText(r, stray, 1) + s[i:]
		case 1:
			s = s[:i] + s[j:]
		case 2:
			s = s[:i] + drawnText(r, stray, j-i) + s[j:]
		case 3:
			s = s[:j] + s[i:]
		case 4:
			s = s[:i] + drawnText(r, "\r\n", r.IntN(4)) + s[j:]
		}
	}
	return s
}

// P16.1: spoilt requests come to what the other implementation says.
func TestSpoilt(t *testing.T) {
	r := source()
	var good, bad, none int
	for range 100000 {
		s := spoilt(r, otherwise(r, drawn(r)))
		want, n, err := plainParse(s)
		parsed(t, s, want, n, err)
		switch {
		case err != nil:
			bad++
		case n == 0:
			none++
		default:
			good++
		}
	}
	holds(t, good > 1000 && bad > 1000 && none > 1000, "taken, refused, waited for:", good, bad, none)
}

// P16.1: rows of a few pieces of a request, in any order, come to what the other implementation says.
func TestPieces(t *testing.T) {
	r := source()
	pieces := []string{
		"GET", "get", " ", " ", "/", "/a", "HTTP/1.1", "GET / HTTP/1.1\r\n", "PUT /x HTTP/1.1\r\n", "\r\n", "\r\n", "\r\n\r\n", "\r", "\n", ":", "a: b\r\n", "A:\r\n",
		"content-length: 3\r\n", "Content-Length: 03 \r\n", "content-length: 2000\r\n", "content-length: z\r\n", "transfer-encoding: x\r\n", strings.Repeat("m:\r\n", 31), strings.Repeat("v", 1000), "bcd", "\t", "\xff",
	}
	for range 100000 {
		s := "GET / HTTP/1.1\r\n"
		if r.IntN(3) == 0 {
			s = ""
		}
		for range r.IntN(9) {
			s += pieces[r.IntN(len(pieces))]
		}
		if r.IntN(2) == 0 {
			s += "\r\n\r\n"
		}
		want, n, err := plainParse(s)
		parsed(t, s, want, n, err)
	}
}

// P16.1: any bytes come to what the other implementation says.
func TestAnyBytes(t *testing.T) {
	r := source()
	for range 3000 {
		for _, of := range []string{between(0, 255), stray, "\r\n", "\r\n:a", "GET / HTTP/1.1\r\n"} {
			s := drawnText(r, of, r.IntN(60))
			want, n, err := plainParse(s)
			parsed(t, s, want, n, err)
		}
	}
	for range 200 {
		s := drawnText(r, between(0, 255), maxHead-20+r.IntN(40))
		want, n, err := plainParse(s)
		parsed(t, s, want, n, err)
	}
}
