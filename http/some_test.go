package http

import (
	"bollard/api"
	"bytes"
	"fmt"
	"math/rand/v2"
	"strconv"
	"strings"
	"testing"
)

// The document's numbers.
const (
	maxHead   = 2048
	maxFields = 32
	maxBody   = 1024
)

// source gives the same numbers on every run.
func source() *rand.Rand { return rand.New(rand.NewPCG(16, 4096)) }

// text is a thing in words, in which nil and empty lists are the same.
func text(x any) string { return fmt.Sprintf("%+q", x) }

// holds tells what was asked, if it doesn't hold.
func holds(t *testing.T, ok bool, what ...any) {
	t.Helper()
	if !ok {
		t.Fatal(what...)
	}
}

// parsed asks what Parse answers, and whether the other implementation answers the same.
func parsed(t *testing.T, s string, want api.Request, size int, fault error) {
	t.Helper()
	r, n, err := Parse([]byte(s))
	if text(r) != text(want) || n != size || err != fault {
		t.Fatalf("Parse of %q: %s, %d, %v in the place of %s, %d, %v", s, text(r), n, err, text(want), size, fault)
	}
	r, n, err = plainParse(s)
	if text(r) != text(want) || n != size || err != fault {
		t.Fatalf("the other implementation of %q: %s, %d, %v in the place of %s, %d, %v", s, text(r), n, err, text(want), size, fault)
	}
}

// taken asks that the bytes are this request, all of them.
func taken(t *testing.T, s string, want api.Request) {
	t.Helper()
	parsed(t, s, want, len(s), nil)
}

// waits asks that more is to come.
func waits(t *testing.T, s string) {
	t.Helper()
	parsed(t, s, api.Request{}, 0, nil)
}

// refused asks for an error, also with bytes behind.
func refused(t *testing.T, s string, want error) {
	t.Helper()
	parsed(t, s, api.Request{}, 0, want)
	parsed(t, s+"GET / HTTP/1.1\r\n\r\n", api.Request{}, 0, want)
}

// judged asks that the bytes are this request, or, if they aren't good, that they are ErrRequest.
func judged(t *testing.T, s string, good bool, want api.Request) {
	t.Helper()
	if good {
		taken(t, s, want)
	} else {
		refused(t, s, api.ErrRequest)
	}
}

func fields(all ...string) []api.Field {
	var out []api.Field
	for i := 0; i+1 < len(all); i += 2 {
		out = append(out, api.Field{Name: all[i], Value: all[i+1]})
	}
	return out
}

// get is a request of GET / with the fields.
func get(all ...string) api.Request {
	return api.Request{Method: "GET", Target: "/", Fields: fields(all...)}
}

// lines are the bytes of a head with these lines behind GET /.
func lines(all ...string) string {
	return strings.Join(append([]string{"GET / HTTP/1.1"}, all...), "\r\n") + "\r\n\r\n"
}

// written is a request as it is told, its body's length being among its fields.
func written(r api.Request) string {
	out := r.Method + " " + r.Target + " HTTP/1.1\r\n"
	for _, f := range r.Fields {
		out += f.Name + ": " + f.Value + "\r\n"
	}
	return out + "\r\n" + string(r.Body)
}

// posted is a request with a body, whose length is the last of its fields.
func posted(method, target, body string, all ...string) api.Request {
	all = append(all, "content-length", strconv.Itoa(len(body)))
	return api.Request{Method: method, Target: target, Fields: fields(all...), Body: []byte(body)}
}

// samples are requests as they may come: without fields and with many, without a body, with some and with the longest.
func samples() []api.Request {
	many := get()
	for i := range maxFields {
		many.Fields = append(many.Fields, api.Field{Name: "x" + strconv.Itoa(i), Value: strings.Repeat("v", i)})
	}
	return []api.Request{
		get(),
		get("host", "x"),
		get("host", ""),
		get("a", "one", "a", "two", "a-b", "a b\tc: d"),
		many,
		posted("PUT", "/aaa/k", "hello"),
		posted("POST", "/aaa?max=1&token=%41", "\r\n\r\n", "host", "h:80"),
		posted("DELETE", "/~", ""),
		posted("ABCDEFGHIJKLMNOP", "/"+strings.Repeat("!", 900), strings.Repeat("\xff", maxBody), "0-9", "~"),
		posted("PUT", "/", "GET / HTTP/1.1\r\n\r\n", "x-date", "300"),
	}
}

// drawnText is some bytes out of those of a text.
func drawnText(r *rand.Rand, of string, n int) string {
	var out strings.Builder
	for range n {
		out.WriteByte(of[r.IntN(len(of))])
	}
	return out.String()
}

// between are the bytes from one to another, both among them.
func between(from, to byte) string {
	var out []byte
	for c := int(from); c <= int(to); c++ {
		out = append(out, byte(c))
	}
	return string(out)
}

const small = "abcdefghijklmnopqrstuvwxyz"

func drawnField(r *rand.Rand) api.Field {
	f := api.Field{Name: drawnText(r, small+"0123456789-", 1+r.IntN(8))}
	value := drawnText(r, between(32, 126)+"\t", r.IntN(20))
	f.Value = strings.Trim(value, "\t ")
	return f
}

// drawn is any request that may come.
func drawn(r *rand.Rand) api.Request {
	out := api.Request{
		Method: drawnText(r, strings.ToUpper(small), 1+r.IntN(16)),
		Target: "/" + drawnText(r, between(33, 126), r.IntN(30)),
	}
	for range r.IntN(6) {
		out.Fields = append(out.Fields, drawnField(r))
	}
	if r.IntN(3) > 0 {
		out.Body = []byte(drawnText(r, between(0, 255), r.IntN(60)))
		own := api.Field{Name: "content-length", Value: strconv.Itoa(len(out.Body))}
		place := r.IntN(len(out.Fields) + 1)
		out.Fields = append(out.Fields[:place:place], append([]api.Field{own}, out.Fields[place:]...)...)
	}
	return out
}

// otherwise is a request written in another way that is told: with great letters in names, and with other blanks about values.
func otherwise(r *rand.Rand, request api.Request) string {
	out := request.Method + " " + request.Target + " HTTP/1.1\r\n"
	for _, f := range request.Fields {
		name := []byte(f.Name)
		for i := range name {
			if r.IntN(2) == 0 {
				name[i] = bytes.ToUpper(name[i : i+1])[0]
			}
		}
		out += string(name) + ":" + drawnText(r, " \t", r.IntN(4)) + f.Value + drawnText(r, " \t", r.IntN(4)) + "\r\n"
	}
	return out + "\r\n" + string(request.Body)
}
