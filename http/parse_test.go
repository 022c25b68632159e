package http

import (
	"bollard/api"
	"strings"
	"testing"
)

// P16.1: the chapter's examples.
func TestExamples(t *testing.T) {
	taken(t, "GET / HTTP/1.1\r\nHost: x\r\n\r\n", get("host", "x"))
	waits(t, "GET /")
	refused(t, "get / HTTP/1.1\r\n\r\n", api.ErrRequest)
}

// P16.1: requests in ordinary use.
func TestOrdinary(t *testing.T) {
	taken(t, "GET / HTTP/1.1\r\n\r\n", get())
	taken(t, "PUT /aaa/k HTTP/1.1\r\nHost: node0:80\r\nX-Date:300\r\nContent-Length: 5\r\n\r\nhello", posted("PUT", "/aaa/k", "hello", "host", "node0:80", "x-date", "300"))
	taken(t, "POST /aaa?max=1&x=%2F HTTP/1.1\r\ncontent-length:\t0 \r\n\r\n", posted("POST", "/aaa?max=1&x=%2F", ""))
	for _, r := range samples() {
		taken(t, written(r), r)
	}
}

// P16.1: no bytes, one of each value, and two.
func TestFewBytes(t *testing.T) {
	r, n, err := Parse(nil)
	holds(t, text(r) == text(api.Request{}) && n == 0 && err == nil, "Parse of nil:", text(r), n, err)
	waits(t, "")
	for c := range 256 {
		waits(t, string([]byte{byte(c)}))
		waits(t, string([]byte{byte(c), 13}))
		waits(t, string([]byte{10, byte(c)}))
		waits(t, string([]byte{13, 10, 13, byte(c)})[:3])
		if c != 10 {
			waits(t, string([]byte{13, 10, 13, byte(c)}))
		}
	}
}

// P16.2: every strict beginning of a request, with a body and without, is neither a request nor an error.
func TestBeginnings(t *testing.T) {
	for _, r := range samples() {
		s := written(r)
		for n := range len(s) {
			waits(t, s[:n])
		}
		taken(t, s, r)
	}
}

// P16.1: a beginning without an end of a head isn't asked what it holds.
func TestWrongBeginnings(t *testing.T) {
	for _, s := range []string{"get / HTTP/1.1\r\n\r\n", " \r\n\r\n", "GET / HTTP/1.1\r\nx\r\n\r\n", "\n\n\r\n\r\n", lines("content-length: x"), lines("transfer-encoding: x"), lines("content-length: 1025")} {
		for n := range len(s) {
			waits(t, s[:n])
		}
		_, n, err := Parse([]byte(s))
		holds(t, n == 0 && err != nil, "Parse of", text(s), n, err)
	}
}

// P16.1: the head ends at the first CR LF CR LF, not at other such bytes.
func TestHeadEnd(t *testing.T) {
	for _, end := range []string{"\n\n", "\r\r", "\r\n", "\r\n\n", "\r\n\r", "\n\r\n", "\n\r\n\r", "\r\r\n", "\r\n\r\r\n", "\r\n \r\n", "\r\n\x00\r\n"} {
		waits(t, "GET / HTTP/1.1"+end)
		refused(t, "GET / HTTP/1.1"+end+"x\r\n\r\n", api.ErrRequest)
	}
	parsed(t, "GET / HTTP/1.1\r\n\r\n\r\n\r\n", get(), 18, nil)
	parsed(t, "GET / HTTP/1.1\r\na:\r\n\r\nget\r\n\r\n", get("a", ""), 22, nil)
	refused(t, "\r\n\r\n", api.ErrRequest)
	refused(t, "\r\n\r\n\r\n", api.ErrRequest)
	refused(t, "\r\nGET / HTTP/1.1\r\n\r\n", api.ErrRequest)
	refused(t, "\r\n\r\nGET / HTTP/1.1\r\n\r\n", api.ErrRequest)
	refused(t, "GET / HTTP/1.1\r\r\n\r\n", api.ErrRequest)
	refused(t, "GET / HTTP/1.1\n\r\n\r\n", api.ErrRequest)
	refused(t, lines("a: b\r"), api.ErrRequest)
	refused(t, lines("\ra: b"), api.ErrRequest)
	refused(t, lines("\na: b"), api.ErrRequest)
}

// longTarget is a head of that many bytes, its end included, by its target.
func longTarget(n int) (string, api.Request) {
	r := get()
	r.Target = "/" + strings.Repeat("t", n-18)
	return written(r), r
}

// longValue is a head of that many bytes, its end included, by a field.
func longValue(n int) (string, api.Request) {
	r := get("host", "x", "v", strings.Repeat("v", n-32))
	return written(r), r
}

// longName is a head of that many bytes, its end included, by the name of a field.
func longName(n int) (string, api.Request) {
	r := get(strings.Repeat("n", n-22), "")
	return written(r), r
}

// P16.1: heads of MaxHead bytes and one less are taken, one more is ErrLarge.
func TestMaxHead(t *testing.T) {
	for _, long := range []func(int) (string, api.Request){longTarget, longValue, longName} {
		for n := maxHead - 6; n <= maxHead; n++ {
			s, r := long(n)
			holds(t, len(s) == n, "the head has", len(s), "bytes")
			taken(t, s, r)
			parsed(t, s+"\r\n\r\n", r, n, nil)
			parsed(t, s+strings.Repeat("b", 5000), r, n, nil)
			for i := range n {
				waits(t, s[:i])
			}
		}
		for n := maxHead + 1; n < maxHead+6; n++ {
			s, _ := long(n)
			holds(t, len(s) == n, "the head has", len(s), "bytes")
			refused(t, s, api.ErrLarge)
			waits(t, s[:maxHead-1])
			for i := maxHead; i < n; i++ {
				parsed(t, s[:i], api.Request{}, 0, api.ErrLarge)
			}
		}
	}
	s, _ := longTarget(20000)
	refused(t, s, api.ErrLarge)
}

// P16.1: without an end of a head, MaxHead bytes are ErrLarge, whatever they are, and one less are not.
func TestNoEnd(t *testing.T) {
	for _, s := range []string{"a", "\r\n", "\r", "\n", "GET / HTTP/1.1\r\n", "GET / HTTP/1.1\r\nx: y\r\nz", "\x00", "\xff", "\r\n\r"} {
		s = strings.Repeat(s, 2*maxHead)
		if strings.Contains(s, "\r\n\r\n") {
			s = strings.ReplaceAll(s, "\r\n", "\r\nx")
		}
		waits(t, s[:maxHead-1])
		refused(t, s[:maxHead], api.ErrLarge)
		refused(t, s[:maxHead+1], api.ErrLarge)
		refused(t, s, api.ErrLarge)
	}
}

// P16.1: the body's bytes don't count for the head, and a head that is just MaxHead may have a body.
func TestHeadAndBody(t *testing.T) {
	body := strings.Repeat("\r\n\r\n", maxBody/4)
	r := posted("PUT", "/", body, "x", "")
	r.Fields[0].Value = strings.Repeat("x", maxHead-len(written(r))+len(body))
	s := written(r)
	holds(t, len(s) == maxHead+maxBody, "the request has", len(s), "bytes")
	taken(t, s, r)
	for n := range len(s) {
		waits(t, s[:n])
	}
	r.Fields[0].Value += "x"
	refused(t, written(r), api.ErrLarge)
}

// P16.1: bodies that are short, just there, and with bytes behind.
func TestBodies(t *testing.T) {
	for _, n := range []int{0, 1, 2, 3, 9, 10, 11, 99, 100, 101, maxBody - 1, maxBody} {
		body := strings.Repeat("b\x00\r\n\xff", maxBody)[:n]
		r := posted("PUT", "/a", body)
		s := written(r)
		for short := range n {
			waits(t, s[:len(s)-1-short])
		}
		taken(t, s, r)
		for _, behind := range []string{"\x00", "\r\n", "\r\n\r\n", "b", "GET / HTTP/1.1\r\n\r\n", strings.Repeat("z", 3000)} {
			parsed(t, s+behind, r, len(s), nil)
		}
	}
}

// P16.1: without a field content-length there is no body.
func TestNoBody(t *testing.T) {
	for _, behind := range []string{"", "b", "body", strings.Repeat("b", 4000)} {
		parsed(t, lines()+behind, get(), 18, nil)
		parsed(t, lines("length: 4", "content: 4", "content-lengt: 4", "content-length-: 4", "ontent-length: 4", "contentlength: 4")+behind, get("length", "4", "content", "4", "content-lengt", "4", "content-length-", "4", "ontent-length", "4", "contentlength", "4"), 115, nil)
		parsed(t, lines("content-length: 0")+behind, get("content-length", "0"), 37, nil)
	}
}
