package http

import (
	"bollard/api"
	"bytes"
	"math"
	"strconv"
	"strings"
	"testing"
)

// writes asks what Write answers, and whether the other implementation answers the same.
func writes(t *testing.T, r api.Response, want string) {
	t.Helper()
	if got := Write(r); string(got) != want {
		t.Fatalf("Write of %s: %q in the place of %q", text(r), got, want)
	}
	if got := plainWrite(r); string(got) != want {
		t.Fatalf("the other implementation of %s: %q in the place of %q", text(r), got, want)
	}
}

// statuses are those that the chapter names, their neighbours, and others at the edges.
func statuses() []int {
	out := []int{0, 1, 9, 10, 99, 100, 101, 201, 301, 302, 401, 411, 422, 501, 502, 504, 999, 1000, -1, -200, -404, -507, 200 + 256, 200 + 1<<16, 200 + 1<<32, 404 + 1<<32, -1 << 32, 2000, 20, 2, math.MinInt, math.MinInt + 1, math.MaxInt - 1, math.MaxInt, math.MinInt32, math.MaxInt32}
	for status := range plainReasons() {
		out = append(out, status-1, status, status+1, -status, 10*status, status/10)
	}
	return out
}

// P16.1: Reason of each status that the chapter names.
func TestReasons(t *testing.T) {
	for _, one := range []struct {
		status int
		want   string
	}{
		{200, "OK"}, {204, "No Content"}, {206, "Partial Content"}, {400, "Bad Request"}, {403, "Forbidden"}, {404, "Not Found"},
		{405, "Method Not Allowed"}, {409, "Conflict"}, {413, "Content Too Large"}, {416, "Range Not Satisfiable"},
		{500, "Internal Server Error"}, {503, "Service Unavailable"}, {507, "Insufficient Storage"},
	} {
		holds(t, Reason(one.status) == one.want, "Reason of", one.status, Reason(one.status))
	}
}

// P16.1: Reason of any other status, those beside the named ones, below 0, 0, the least and the greatest.
func TestOtherReasons(t *testing.T) {
	for status := -2000; status < 3000; status++ {
		holds(t, Reason(status) == plainReason(status), "Reason of", status, Reason(status))
	}
	for _, status := range statuses() {
		holds(t, Reason(status) == plainReason(status), "Reason of", status, Reason(status))
	}
	for _, status := range []int{math.MinInt, -200, -1, 0, 1, 100, 199, 201, 203, 205, 207, 399, 401, 402, 406, 408, 410, 412, 414, 415, 417, 499, 501, 502, 504, 506, 508, math.MaxInt} {
		holds(t, Reason(status) == "Unknown", "Reason of", status, Reason(status))
	}
}

// P16.1: Write of no field and of some, of no body and of some.
func TestWrite(t *testing.T) {
	writes(t, api.Response{}, "HTTP/1.1 0 Unknown\r\ncontent-length: 0\r\n\r\n")
	writes(t, api.Response{Status: 200}, "HTTP/1.1 200 OK\r\ncontent-length: 0\r\n\r\n")
	writes(t, api.Response{Status: 404, Body: []byte("x")}, "HTTP/1.1 404 Not Found\r\ncontent-length: 1\r\n\r\nx")
	writes(t, api.Response{Status: 200, Fields: fields("etag", "2cf2"), Body: []byte("hello")}, "HTTP/1.1 200 OK\r\netag: 2cf2\r\ncontent-length: 5\r\n\r\nhello")
	writes(t, api.Response{Status: 206, Fields: fields("b", "1", "a", "2", "b", "1", "Etag", "")}, "HTTP/1.1 206 Partial Content\r\nb: 1\r\na: 2\r\nb: 1\r\nEtag: \r\ncontent-length: 0\r\n\r\n")
	writes(t, api.Response{Status: -7, Fields: []api.Field{}, Body: []byte{}}, "HTTP/1.1 -7 Unknown\r\ncontent-length: 0\r\n\r\n")
	writes(t, api.Response{Status: 5}, "HTTP/1.1 5 Unknown\r\ncontent-length: 0\r\n\r\n")
}

// P16.1: fields are written as they are, whatever they hold.
func TestWriteAnyField(t *testing.T) {
	writes(t, api.Response{Status: 200, Fields: fields("", "")}, "HTTP/1.1 200 OK\r\n: \r\ncontent-length: 0\r\n\r\n")
	writes(t, api.Response{Status: 200, Fields: fields("content-length", "7"), Body: []byte("ab")}, "HTTP/1.1 200 OK\r\ncontent-length: 7\r\ncontent-length: 2\r\n\r\nab")
	writes(t, api.Response{Status: 200, Fields: fields("transfer-encoding", "chunked")}, "HTTP/1.1 200 OK\r\ntransfer-encoding: chunked\r\ncontent-length: 0\r\n\r\n")
	writes(t, api.Response{Status: 200, Fields: fields("A b:", " \t\r\n\x00\xff ", "%d", "%s")}, "HTTP/1.1 200 OK\r\nA b::  \t\r\n\x00\xff \r\n%d: %s\r\ncontent-length: 0\r\n\r\n")
	for c := range 256 {
		one := string([]byte{byte(c)})
		writes(t, api.Response{Status: 503, Fields: fields(one, one), Body: []byte(one)}, "HTTP/1.1 503 Service Unavailable\r\n"+one+": "+one+"\r\ncontent-length: 1\r\n\r\n"+one)
	}
}

// P16.1: Write of any Status.
func TestWriteStatuses(t *testing.T) {
	for _, status := range statuses() {
		want := "HTTP/1.1 " + strconv.Itoa(status) + " " + plainReason(status) + "\r\n"
		writes(t, api.Response{Status: status}, want+"content-length: 0\r\n\r\n")
		writes(t, api.Response{Status: status, Fields: fields("a", "b"), Body: []byte("\r\n")}, want+"a: b\r\ncontent-length: 2\r\n\r\n\r\n")
	}
	writes(t, api.Response{Status: math.MinInt}, "HTTP/1.1 -9223372036854775808 Unknown\r\ncontent-length: 0\r\n\r\n")
	writes(t, api.Response{Status: math.MaxInt}, "HTTP/1.1 9223372036854775807 Unknown\r\ncontent-length: 0\r\n\r\n")
}

// P16.1: Write of bodies of any length, and of many fields.
func TestWriteLong(t *testing.T) {
	for _, n := range []int{0, 1, 9, 10, 11, 99, 100, 1023, 1024, 1025, 65536, 1000000} {
		body := bytes.Repeat([]byte{0, 255, 13, 10}, n/4+1)[:n]
		writes(t, api.Response{Status: 200, Body: body}, "HTTP/1.1 200 OK\r\ncontent-length: "+strconv.Itoa(n)+"\r\n\r\n"+string(body))
	}
	for _, n := range []int{1, 2, 3, 31, 32, 33, 1000} {
		var all []string
		for i := range n {
			all = append(all, "n"+strconv.Itoa(i), strings.Repeat("v", i))
		}
		want := "HTTP/1.1 413 Content Too Large\r\n"
		for i := 0; i < len(all); i += 2 {
			want += all[i] + ": " + all[i+1] + "\r\n"
		}
		writes(t, api.Response{Status: 413, Fields: fields(all...), Body: []byte("b")}, want+"content-length: 1\r\n\r\nb")
	}
}

// P16.1: Write of drawn responses, against the other implementation.
func TestDrawnResponses(t *testing.T) {
	r := source()
	for range 5000 {
		all := statuses()
		response := api.Response{Status: all[r.IntN(len(all))], Body: []byte(drawnText(r, between(0, 255), r.IntN(200)))}
		for range r.IntN(5) {
			response.Fields = append(response.Fields, api.Field{Name: drawnText(r, between(0, 255), r.IntN(9)), Value: drawnText(r, between(0, 255), r.IntN(9))})
		}
		writes(t, response, string(plainWrite(response)))
	}
}
