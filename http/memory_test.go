package http

import (
	"bollard/api"
	"bytes"
	"slices"
	"testing"
	"unsafe"
)

// changing is a text whose bytes change afterwards, as no text of the language does: what was kept of it would change too.
func changing(text string) (string, func()) {
	b := append([]byte(text), 'x')
	return unsafe.String(&b[0], len(text)), func() {
		for i := range b {
			b[i] = '#'
		}
	}
}

// roomyBytes is the list with spare room behind its length, filled with what stands behind.
func roomyBytes(list, behind []byte) []byte {
	return append(bytes.Clone(list), behind...)[:len(list)]
}

// roomyFields are the fields with spare room behind their length, filled with others, and what changes all of them.
func roomyFields(list, behind []api.Field) ([]api.Field, func()) {
	var out []api.Field
	var all []func()
	for _, f := range append(slices.Clone(list), behind...) {
		name, first := changing(f.Name)
		value, second := changing(f.Value)
		out = append(out, api.Field{Name: name, Value: value})
		all = append(all, first, second)
	}
	out = out[:len(list)]
	return out, func() {
		for _, change := range all {
			change()
		}
		fillFields(out)
	}
}

func fillFields(list []api.Field) {
	for i := range list[:cap(list)] {
		list[:cap(list)][i] = api.Field{Name: "over", Value: "over"}
	}
}

func fillBytes(list []byte) {
	for i := range list[:cap(list)] {
		list[:cap(list)][i] = 7
	}
}

// inside is all that fields and a body hold, spare room included.
func inside(fields []api.Field, body []byte) string {
	return text(fields[:cap(fields)]) + text(body[:cap(body)])
}

// clean asks that nothing is handed out behind fields and bytes.
func clean(t *testing.T, fields []api.Field, body []byte) {
	t.Helper()
	for _, f := range fields[len(fields):cap(fields)] {
		holds(t, f == api.Field{}, "something is handed out behind fields:", text(f))
	}
	behind := body[len(body):cap(body)]
	holds(t, bytes.Equal(behind, make([]byte, len(behind))), "something is handed out behind bytes")
}

// Rule 4: Parse changes nothing of what it is handed, keeps nothing of it, and what is answered is shared neither with it nor with what is answered later.
func TestParseMemory(t *testing.T) {
	for _, sample := range samples() {
		whole := []byte(written(sample))
		b := roomyBytes(whole, bytes.Repeat([]byte("a: b\r\n"), 99))
		before := text(b[:cap(b)])
		got, n, err := Parse(b)
		again, m, fault := Parse(b)
		holds(t, err == nil && fault == nil && n == len(whole) && m == n, "Parse of", text(sample), n, m, err, fault)
		holds(t, text(b[:cap(b)]) == before, "Parse changes what it is handed:", text(sample))
		clean(t, got.Fields, got.Body)
		fillBytes(b)
		holds(t, text(got) == text(sample), "Parse keeps what it is handed:", text(got))
		fillFields(got.Fields)
		fillBytes(got.Body)
		_ = append(got.Body, 1, 2, 3)
		holds(t, text(again) == text(sample), "two answers of Parse share memory:", text(again))
		later, _, fault := Parse(whole)
		holds(t, fault == nil && text(later) == text(sample), "an answer of Parse is shared with a later one:", text(later), fault)
	}
}

// Rule 4: bytes behind a request are neither handed out nor changed.
func TestBehindMemory(t *testing.T) {
	for _, sample := range samples() {
		for _, behind := range []string{"b", "behind", written(sample)} {
			b := []byte(written(sample) + behind)
			got, n, err := Parse(b)
			holds(t, err == nil && text(got) == text(sample), "Parse of", text(b), text(got), err)
			clean(t, got.Fields, got.Body)
			fillFields(got.Fields)
			fillBytes(got.Body)
			_ = append(got.Body, 1, 2, 3)
			holds(t, n == len(b)-len(behind) && string(b) == written(sample)+behind, "an answer of Parse is shared with what it was handed:", text(b), n)
		}
	}
}

// Rule 4: Parse of what is refused, or isn't whole yet, changes nothing of it either.
func TestRefusedMemory(t *testing.T) {
	for _, s := range []string{"get / HTTP/1.1\r\nHost: X\r\n\r\n", "GET / HTTP/1.1\r\nHost", lines("HOST: X", "Content-Length:  3 ") + "ab", lines("Host :x"), lines("Transfer-Encoding: X"), lines("CONTENT-LENGTH: 1025")} {
		b := roomyBytes([]byte(s), []byte("c\r\n\r\n"))
		before := text(b[:cap(b)])
		r, n, _ := Parse(b)
		holds(t, text(b[:cap(b)]) == before, "Parse changes what it is handed:", text(s))
		holds(t, n == 0 && r.Method == "" && r.Target == "" && len(r.Fields) == 0 && len(r.Body) == 0, "Parse of", text(s), text(r), n)
		clean(t, r.Fields, r.Body)
	}
}

// Rule 4: what lies behind the bytes isn't read: neither the end of a head, nor the rest of a body.
func TestParseBehind(t *testing.T) {
	for _, sample := range samples() {
		whole := []byte(written(sample))
		for n := range whole {
			r, size, err := Parse(roomyBytes(whole[:n], whole[n:]))
			holds(t, text(r) == text(api.Request{}) && size == 0 && err == nil, "Parse reads behind its bytes:", text(whole[:n]), text(r), size, err)
		}
	}
	for _, s := range []string{"get / HTTP/1.1\r\n\r\n", lines("x"), lines("transfer-encoding: x"), lines("content-length: x"), lines("content-length: 1025")} {
		for n := range len(s) {
			r, size, err := Parse(roomyBytes([]byte(s[:n]), []byte(s[n:])))
			holds(t, text(r) == text(api.Request{}) && size == 0 && err == nil, "Parse reads behind its bytes:", text(s[:n]), text(r), size, err)
		}
	}
	s, _ := longTarget(maxHead)
	r, size, err := Parse(roomyBytes([]byte(s[:maxHead-1]), []byte(s[maxHead-1:])))
	holds(t, text(r) == text(api.Request{}) && size == 0 && err == nil, "Parse reads behind its bytes:", size, err)
}

// Rule 4: Field and Count change nothing of what they are handed, read nothing behind it, and keep nothing of it.
func TestFieldMemory(t *testing.T) {
	for _, sample := range samples() {
		for _, f := range sample.Fields {
			list, change := roomyFields(sample.Fields, fields("behind", "b", f.Name, f.Value))
			name, other := changing(f.Name)
			r := api.Request{Method: "GET", Target: "/", Fields: list, Body: roomyBytes([]byte("b"), []byte("c"))}
			before := inside(r.Fields, r.Body)
			want, all := plainFind(sample, f.Name)[0], len(plainFind(sample, f.Name))
			value, ok := Field(r, name)
			n := Count(r, name)
			holds(t, ok && n == all && value == want, "Field and Count of", text(name), text(value), ok, n)
			behind, ok := Field(r, "behind")
			holds(t, !ok && behind == "" && Count(r, "behind") == 0, "Field or Count reads behind the fields:", text(behind), ok)
			holds(t, inside(r.Fields, r.Body) == before && name == f.Name, "Field or Count changes what it is handed")
			change()
			other()
			holds(t, value == want, "Field's answer is shared with what it was handed:", text(value))
		}
	}
}

// responses are some with fields and without, with a body and without.
func responses() []api.Response {
	var out []api.Response
	for i, sample := range samples() {
		out = append(out, api.Response{Status: 200 + i, Fields: sample.Fields, Body: sample.Body}, api.Response{Status: 404, Fields: sample.Fields}, api.Response{Status: i, Body: sample.Body})
	}
	return out
}

// Rule 4: Write changes nothing of what it is handed, the room behind the fields included, reads nothing behind it, and keeps nothing of it.
func TestWriteMemory(t *testing.T) {
	for _, sample := range responses() {
		for _, room := range []int{0, 1, 2, 9} {
			list, change := roomyFields(sample.Fields, slices.Repeat(fields("behind", "b"), room))
			r := api.Response{Status: sample.Status, Fields: list, Body: roomyBytes(sample.Body, bytes.Repeat([]byte{9}, room))}
			before := inside(r.Fields, r.Body)
			want := plainWrite(sample)
			got, again := Write(r), Write(r)
			holds(t, inside(r.Fields, r.Body) == before, "Write changes what it is handed:", text(sample))
			holds(t, bytes.Equal(got, want), "Write of", text(sample), text(got))
			clean(t, nil, got)
			change()
			fillBytes(r.Body)
			holds(t, bytes.Equal(got, want), "Write keeps what it is handed:", text(got))
			fillBytes(got)
			holds(t, bytes.Equal(again, want), "two answers of Write share memory:", text(again))
			holds(t, bytes.Equal(Write(sample), want), "an answer of Write is shared with a later one")
		}
	}
}

// Rule 4: several responses with the same fields, one a beginning of the other's, are each written as they are.
func TestOneRowOfFields(t *testing.T) {
	all := fields("a", "1", "b", "2", "c", "3", "d", "4")
	for n := range len(all) + 1 {
		sample := api.Response{Status: 200, Fields: slices.Clone(all[:n]), Body: make([]byte, n)}
		got := Write(api.Response{Status: 200, Fields: all[:n], Body: make([]byte, n)})
		holds(t, bytes.Equal(got, plainWrite(sample)), "Write of", n, "fields:", text(got))
	}
	holds(t, text(all) == text(fields("a", "1", "b", "2", "c", "3", "d", "4")), "Write changes fields that are another's:", text(all))
}

// Rule 8: what a call answers hangs on nothing that was called ahead, refused or not.
func TestCallsApart(t *testing.T) {
	for _, sample := range samples() {
		s := []byte(written(sample))
		response := api.Response{Status: 200, Fields: sample.Fields, Body: sample.Body}
		want := plainWrite(response)
		for _, other := range samples() {
			_, _, _ = Parse([]byte(written(other)))
			_, _, _ = Parse([]byte(written(other))[:20])
			_, _, _ = Parse([]byte(lines("content-length: x")))
			_ = Write(api.Response{Status: 500, Fields: other.Fields, Body: other.Body})
			_, _ = Field(other, "host")
			got, n, err := Parse(s)
			holds(t, err == nil && n == len(s) && text(got) == text(sample), "Parse behind other calls:", text(got), n, err)
			holds(t, bytes.Equal(Write(response), want), "Write behind other calls:", text(response))
		}
	}
}
