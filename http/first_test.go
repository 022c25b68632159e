package http

import (
	"bollard/api"
	"strings"
	"testing"
)

// asked is a request without fields.
func asked(method, target string) api.Request {
	return api.Request{Method: method, Target: target}
}

// P16.1: methods have 1 to 16 letters.
func TestMethodLengths(t *testing.T) {
	for n := range 40 {
		method := strings.Repeat("MZA", n)[:n]
		judged(t, method+" / HTTP/1.1\r\n\r\n", n >= 1 && n <= 16, asked(method, "/"))
	}
	refused(t, "/ HTTP/1.1\r\n\r\n", api.ErrRequest)
	refused(t, strings.Repeat("A", 1900)+" / HTTP/1.1\r\n\r\n", api.ErrRequest)
}

// P16.1: methods have the letters A to Z alone, at each place.
func TestMethodBytes(t *testing.T) {
	for c := range 256 {
		good := c >= 65 && c <= 90
		one := string([]byte{byte(c)})
		for _, method := range []string{one, one + "GET", "G" + one + "T", "GET" + one, strings.Repeat("G", 15) + one} {
			judged(t, method+" / HTTP/1.1\r\n\r\n", good, asked(method, "/"))
		}
	}
	for _, method := range []string{"get", "Get", "GEt", "gET", "GET1", "1", "G-T", "G_T", "\u00c4", "GET\u0130"} {
		refused(t, method+" / HTTP/1.1\r\n\r\n", api.ErrRequest)
	}
}

// P16.1: a target is a slash, and any number of bytes 33 to 126.
func TestTargetBytes(t *testing.T) {
	for c := range 256 {
		one := string([]byte{byte(c)})
		for _, target := range []string{"/" + one, "/" + one + "b", "/ab" + one, "//" + one + "/"} {
			judged(t, "GET "+target+" HTTP/1.1\r\n\r\n", c >= 33 && c <= 126, asked("GET", target))
		}
		judged(t, "GET "+one+" HTTP/1.1\r\n\r\n", c == 47, asked("GET", "/"))
		judged(t, "GET "+one+"/a HTTP/1.1\r\n\r\n", c == 47, asked("GET", "//a"))
	}
	all := "/" + between(33, 126)
	taken(t, "GET "+all+" HTTP/1.1\r\n\r\n", asked("GET", all))
	taken(t, "GET /"+all+all+" HTTP/1.1\r\n\r\n", asked("GET", "/"+all+all))
}

// P16.1: targets that are empty, or begin otherwise than by a slash.
func TestTargets(t *testing.T) {
	for _, target := range []string{"", "a", "*", "a/", "?/", "%2F", "http://x/", "\\", " ", "aaa/k", "\t/", "/\u00e4", "\ufeff/", "/\u00a0"} {
		refused(t, "GET "+target+" HTTP/1.1\r\n\r\n", api.ErrRequest)
	}
	for _, target := range []string{"/", "//", "/.", "/..", "/a?b=c&d#e", "/%", "/%zz", "/HTTP/1.1", "/\"<>\\^`{|}", "/:", "/~", "/!"} {
		taken(t, "GET "+target+" HTTP/1.1\r\n\r\n", asked("GET", target))
	}
}

// P16.1: blanks that are missing, doubled, at the line's end, or other bytes than 32.
func TestBlanks(t *testing.T) {
	for _, line := range []string{
		"", " ", "  ", "   ", "GET", "GET ", " GET", "GET /", "GET / ", "GET/ HTTP/1.1", "GET /HTTP/1.1", "GET/HTTP/1.1", "GET HTTP/1.1", "GET  HTTP/1.1",
		"GET  / HTTP/1.1", "GET /  HTTP/1.1", "GET  /  HTTP/1.1", " GET / HTTP/1.1", "GET / HTTP/1.1 ", "GET / HTTP/1.1  ", " GET / HTTP/1.1 ",
		"GET / / HTTP/1.1", "GET / a HTTP/1.1", "GET / HTTP/1.1 HTTP/1.1", "GET / HTTP/1.1 a", "GET GET / HTTP/1.1", "GET / HTTP/ 1.1", "/ GET HTTP/1.1", "HTTP/1.1 / GET",
		"GET\t/ HTTP/1.1", "GET /\tHTTP/1.1", "GET\t/\tHTTP/1.1", "GET / HTTP/1.1\t", "GET\u00a0/ HTTP/1.1", "GET\x00/ HTTP/1.1", "GET\n/ HTTP/1.1", "GET\r/ HTTP/1.1",
	} {
		refused(t, line+"\r\n\r\n", api.ErrRequest)
		refused(t, line+"\r\nhost: x\r\n\r\n", api.ErrRequest)
	}
	taken(t, "GET / HTTP/1.1\r\n\r\n", get())
	taken(t, "GET /HTTP/1.1 HTTP/1.1\r\n\r\n", asked("GET", "/HTTP/1.1"))
	for c := range 256 {
		one := string([]byte{byte(c)})
		judged(t, "GET"+one+"/ HTTP/1.1\r\n\r\n", c == 32, get())
		judged(t, "GET /"+one+"HTTP/1.1\r\n\r\n", c == 32, get())
		if c != 13 {
			refused(t, "GET / HTTP/1.1"+one+"\r\n\r\n", api.ErrRequest)
		}
		judged(t, one+"GET / HTTP/1.1\r\n\r\n", c >= 65 && c <= 90, asked(one+"GET", "/"))
	}
}

// P16.1: another version is refused, at every byte.
func TestVersions(t *testing.T) {
	for _, version := range []string{"", "HTTP", "HTTP/", "HTTP/1", "HTTP/1.", "HTTP/1.0", "HTTP/1.2", "HTTP/1.10", "HTTP/1.11", "HTTP/1.1.", "HTTP/01.1", "HTTP/1.01", "HTTP/2", "HTTP/2.0", "HTTP/0.9", "http/1.1", "Http/1.1", "HTTPS/1.1", "HTTP 1.1", "HTTP/1,1", "TTP/1.1", "XHTTP/1.1", "1.1"} {
		refused(t, "GET / "+version+"\r\n\r\n", api.ErrRequest)
	}
	const version = "HTTP/1.1"
	for i := range len(version) {
		for c := range 256 {
			other := version[:i] + string([]byte{byte(c)}) + version[i+1:]
			judged(t, "GET / "+other+"\r\n\r\n", other == version, get())
		}
		refused(t, "GET / "+version[:i]+version[i+1:]+"\r\n\r\n", api.ErrRequest)
	}
}

// P16.1: a CR or an LF alone, the two turned about, or a CR LF too many, are refused at each place of the first line.
func TestFirstBreaks(t *testing.T) {
	const line = "PUT /ab HTTP/1.1"
	for i := range len(line) {
		for _, one := range []string{"\r", "\n", "\n\r", "\r\r", "\n\n", "\r\n", "\r\n\r"} {
			refused(t, line[:i]+one+line[i:]+"\r\n\r\n", api.ErrRequest)
		}
	}
	for _, one := range []string{"\r", "\n", "\n\r", "\r\r", "\n\n", "\r\n\r"} {
		refused(t, line+one+"\r\n\r\n", api.ErrRequest)
	}
}
