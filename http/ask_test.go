package http

import (
	"bollard/api"
	"slices"
	"strings"
	"testing"
)

// found asks Field and Count for a name; no values: there is no such field.
func found(t *testing.T, r api.Request, name string, values ...string) {
	t.Helper()
	value, ok := Field(r, name)
	n := Count(r, name)
	if len(values) == 0 {
		values = []string{""}
		holds(t, !ok && n == 0, "Field and Count of", text(name), text(value), ok, n)
	} else {
		holds(t, ok && n == len(values), "Field and Count of", text(name), text(value), ok, n)
	}
	holds(t, value == values[0], "Field of", text(name), text(value))
}

// P16.1: names that are there once, more often, and not at all.
func TestFieldAndCount(t *testing.T) {
	r := get("host", "x", "a", "1", "b", "", "a", "2", "c", "3", "b", "4", "a", "1")
	found(t, r, "host", "x")
	found(t, r, "a", "1", "2", "1")
	found(t, r, "b", "", "4")
	found(t, r, "c", "3")
	for _, name := range []string{"", "d", "x", "1", "hos", "ost", "hostx", "ho", "host ", " host", "host:", "a\x00", "aa", "-"} {
		found(t, r, name)
	}
	found(t, api.Request{}, "")
	found(t, api.Request{}, "host")
	found(t, api.Request{Fields: []api.Field{}}, "host")
	found(t, api.Request{Method: "host", Target: "host", Body: []byte("host: x")}, "host")
}

// P16.1: names are compared byte by byte: great letters aren't small ones.
func TestGreatLettersAsked(t *testing.T) {
	r := get("host", "x", "a", "1")
	for _, name := range []string{"Host", "HOST", "hosT", "A"} {
		found(t, r, name)
	}
	r = get("Host", "1", "host", "2", "HOST", "3", "Host", "4", "\xff", "5", "\u00e4", "6", "", "7")
	found(t, r, "Host", "1", "4")
	found(t, r, "host", "2")
	found(t, r, "HOST", "3")
	found(t, r, "hOST")
	found(t, r, "\xff", "5")
	found(t, r, "\xfe")
	found(t, r, "\u00e4", "6")
	found(t, r, "\u00c4")
	found(t, r, "\xc3")
	found(t, r, "", "7")
}

// P16.1: names of any length, and values with any bytes.
func TestLongNames(t *testing.T) {
	long := strings.Repeat("n", 100000)
	value := strings.Repeat(between(0, 255), 100)
	r := get(long, value, long+"n", "", long[1:], "\r\n")
	found(t, r, long, value)
	found(t, r, long+"n", "")
	found(t, r, long[1:], "\r\n")
	found(t, r, long[2:])
	found(t, r, long+"nn")
}

// P16.1: of many fields, whichever stands first, and however many they are.
func TestManyFields(t *testing.T) {
	var r api.Request
	for n := range 1000 {
		found(t, r, "other", slices.Repeat([]string{"o"}, n)...)
		r.Fields = append(r.Fields, api.Field{Name: "n", Value: "v"}, api.Field{Name: "other", Value: "o"})
		found(t, r, "n", slices.Repeat([]string{"v"}, n+1)...)
		last := r
		last.Fields = append(slices.Clone(r.Fields), api.Field{Name: "last", Value: "l"})
		found(t, last, "last", "l")
	}
}

// P16.1: Field and Count of drawn fields, against the other implementation.
func TestDrawnFields(t *testing.T) {
	r := source()
	for range 20000 {
		var request api.Request
		for range r.IntN(8) {
			request.Fields = append(request.Fields, api.Field{Name: drawnText(r, "abA-", r.IntN(3)), Value: drawnText(r, between(0, 255), r.IntN(4))})
		}
		for range 4 {
			name := drawnText(r, "abA-", r.IntN(3))
			found(t, request, name, plainFind(request, name)...)
		}
	}
}

// P16.1: fields of a request that was taken.
func TestFieldsTaken(t *testing.T) {
	r, _, err := Parse([]byte(lines("Host: a", "X-Date:  7 ", "x-date: 8", "content-length: 0")))
	holds(t, err == nil, err)
	found(t, r, "host", "a")
	found(t, r, "x-date", "7", "8")
	found(t, r, "content-length", "0")
	found(t, r, "Host")
	found(t, r, "X-Date")
	found(t, r, "transfer-encoding")
}
