package sig

import (
	"bollard/api"
	"bytes"
	"fmt"
	"math"
	"math/rand/v2"
	"slices"
	"strings"
	"testing"
)

// The chapter's numbers, written out once more: one that the code takes wrongly isn't taken wrongly here too.
const (
	maxTime = 1099511627776
	skew    = 100
)

// source gives the same numbers on every run.
func source() *rand.Rand { return rand.New(rand.NewPCG(18, 4096)) }

// text is a thing in words, in which nil and empty lists are the same.
func text(x any) string { return fmt.Sprintf("%+q", x) }

// holds tells what was asked, if it doesn't hold.
func holds(t *testing.T, ok bool, what ...any) {
	t.Helper()
	if !ok {
		t.Fatal(what...)
	}
}

// fields are names and values, one behind the other.
func fields(all ...string) []api.Field {
	var out []api.Field
	for i := 0; i+1 < len(all); i += 2 {
		out = append(out, api.Field{Name: all[i], Value: all[i+1]})
	}
	return out
}

// asking is a request with fields.
func asking(method, target, body string, all ...string) api.Request {
	return api.Request{Method: method, Target: target, Fields: fields(all...), Body: []byte(body)}
}

// with is the request with other fields.
func with(r api.Request, all ...string) api.Request {
	r.Fields = fields(all...)
	return r
}

// same tells whether two are the same request, its fields in the same order.
func same(a, b api.Request) bool {
	return a.Method == b.Method && a.Target == b.Target && slices.Equal(a.Fields, b.Fields) && bytes.Equal(a.Body, b.Body)
}

// value is that of a request's field that is there just once.
func value(t *testing.T, r api.Request, name string) string {
	t.Helper()
	var all []string
	for _, f := range r.Fields {
		if f.Name == name {
			all = append(all, f.Value)
		}
	}
	holds(t, len(all) == 1, "fields", name, "of", text(r), len(all))
	return all[0]
}

// code is the signature of a signed request: the last 64 bytes of its authorization.
func code(t *testing.T, r api.Request) string {
	t.Helper()
	s := value(t, r, "authorization")
	holds(t, len(s) >= 64, "authorization:", text(s))
	return s[len(s)-64:]
}

// texted asks what Text answers, of both implementations.
func texted(t *testing.T, r api.Request, date int, want string, fault error) {
	t.Helper()
	if s, err := Text(r, date); s != want || err != fault {
		t.Fatalf("Text of %s at %d: %+q, %v in the place of %+q, %v", text(r), date, s, err, want, fault)
	}
	if s, err := plainText(r, date); s != want || err != fault {
		t.Fatalf("the other implementation of Text of %s at %d: %+q, %v in the place of %+q, %v", text(r), date, s, err, want, fault)
	}
}

// signs asks what Sign answers, of both implementations.
func signs(t *testing.T, r api.Request, key api.Key, date int, want api.Request, fault error) {
	t.Helper()
	if got, err := Sign(r, key, date); !same(got, want) || err != fault {
		t.Fatalf("Sign of %s with %s at %d: %s, %v in the place of %s, %v", text(r), text(key), date, text(got), err, text(want), fault)
	}
	if got, err := plainSign(r, key, date); !same(got, want) || err != fault {
		t.Fatalf("the other implementation of Sign of %s with %s at %d: %s, %v in the place of %s, %v", text(r), text(key), date, text(got), err, text(want), fault)
	}
}

// checked asks what Check answers, of both implementations.
func checked(t *testing.T, r api.Request, keys []api.Key, now int, want string, fault error) {
	t.Helper()
	if name, err := Check(r, keys, now); name != want || err != fault {
		t.Fatalf("Check of %s with %s at %d: %+q, %v in the place of %+q, %v", text(r), text(keys), now, name, err, want, fault)
	}
	if name, err := plainCheck(r, keys, now); name != want || err != fault {
		t.Fatalf("the other implementation of Check of %s with %s at %d: %+q, %v in the place of %+q, %v", text(r), text(keys), now, name, err, want, fault)
	}
}

// judged asks for the key's name if a request is good, and for ErrRequest if it isn't.
func judged(t *testing.T, r api.Request, keys []api.Key, now int, good bool, name string) {
	t.Helper()
	if good {
		checked(t, r, keys, now, name, nil)
	} else {
		checked(t, r, keys, now, "", api.ErrRequest)
	}
}

// signed is a request that Sign signs, as the other implementation does too.
func signed(t *testing.T, r api.Request, key api.Key, date int) api.Request {
	t.Helper()
	want, err := plainSign(r, key, date)
	holds(t, err == nil, "the other implementation of Sign of", text(r), text(key), date, err)
	signs(t, r, key, date, want, nil)
	return want
}

// asked asks all calls what the other implementation says, and tells what Check answered.
func asked(t *testing.T, r api.Request, keys []api.Key, date, now int) error {
	t.Helper()
	s, err := plainText(r, date)
	texted(t, r, date, s, err)
	for _, k := range keys {
		out, err := plainSign(r, k, date)
		signs(t, r, k, date, out, err)
	}
	name, err := plainCheck(r, keys, now)
	checked(t, r, keys, now, name, err)
	return err
}

// one are the keys of which there is just one.
func one(name, secret string) []api.Key { return []api.Key{{Name: name, Secret: secret}} }

// allBytes are the 256 of them.
func allBytes() string {
	var out []byte
	for c := range 256 {
		out = append(out, byte(c))
	}
	return string(out)
}

// isName tells of which bytes a key's name may be.
func isName(c int) bool {
	return c >= 48 && c <= 57 || c >= 65 && c <= 90 || c >= 97 && c <= 122 || c == 45
}

// badTargets are some that layer 17 refuses.
func badTargets() []string {
	return []string{"", "a", "aaa/k", "?", "?a=1", " /", "%2Faaa", "/%", "/%4", "/%4g", "/%g4", "/a%00", "/%7F", "/%80", "/\x00", "/\x1f", "/\x7f", "/\x80", "/a?%", "/a?b=%", "/a?b=1&%2", "/a?b=c&d=%ff", "/a?\n", "/\r\n", "/\u00e4", "\xff", "http://x/a"}
}

// goodTargets are some that layer 17 takes, with the lines that they come to.
func goodTargets() map[string]string {
	return map[string]string{
		"/": "/\n", "/aaa": "/aaa\n", "/aaa/k": "/aaa/k\n", "//": "//\n", "/?": "/\n", "/?&": "/\n", "/a%20b": "/a%20b\n", "/a b": "/a%20b\n", "/%7e": "/~\n", "/a%2Fb": "/a/b\n",
		"/a?x": "/a\nx=", "/a?x=1&y&x=0": "/a\nx=0&x=1&y=", "/?b=2&a=1": "/\na=1&b=2", "/?=": "/\n=", "/?a=b=c": "/\na=b%3Dc", "/?a=%26": "/\na=%26", "/?%61=%31": "/\na=1", "/??": "/\n%3F=", "/?-&.": "/\n-=&.=", "/?+&-": "/\n%2B=&-=", "/Aa/K?Y=Z&X=%4a&y": "/Aa/K\nX=J&Y=Z&y=",
	}
}

// farDates are those at and beyond the ends, and whether they are dates.
func farDates() map[int]bool {
	return map[int]bool{
		math.MinInt: false, math.MinInt + 1: false, -maxTime: false, -100: false, -1: false, 0: true, 1: true, 9: true, 10: true, 12: true, 99: true, 100: true, 999999: true,
		maxTime - 1: true, maxTime: true, maxTime + 1: false, maxTime * 2: false, math.MaxInt - 1: false, math.MaxInt: false, 1 << 32: true, 1<<32 + 1: true, 1<<31 - 1: true,
	}
}

// drawnText is some bytes out of those of a text.
func drawnText(r *rand.Rand, of string, n int) string {
	var out strings.Builder
	for range n {
		out.WriteByte(of[r.IntN(len(of))])
	}
	return out.String()
}

// pick is one of several.
func pick[T any](r *rand.Rand, of ...T) T { return of[r.IntN(len(of))] }

// drawnTarget is a target as it may come, sometimes a wrong one.
func drawnTarget(r *rand.Rand) string {
	if r.IntN(12) == 0 {
		return pick(r, badTargets()...)
	}
	out := "/" + drawnText(r, "ab/-~ +", r.IntN(6))
	if r.IntN(2) == 0 {
		return out
	}
	out += "?"
	for i := range r.IntN(5) {
		if i > 0 {
			out += "&"
		}
		out += drawnText(r, "ab", r.IntN(2)) + pick(r, "", "=", "%41", "=%26", "&", "=1")
	}
	return out
}

// drawnName is the name of a key, often one that other keys have too.
func drawnName(r *rand.Rand) string {
	if r.IntN(3) == 0 {
		return drawnText(r, "abAZ09-", 1+r.IntN(12))
	}
	return pick(r, "k", "K", "kk", "a", "-", "0", "k-")
}

// drawnKeys are some keys, often with a name twice.
func drawnKeys(r *rand.Rand) []api.Key {
	var out []api.Key
	for range r.IntN(5) {
		out = append(out, api.Key{Name: drawnName(r), Secret: drawnSecret(r)})
	}
	return out
}

func drawnSecret(r *rand.Rand) string {
	if r.IntN(3) == 0 {
		return drawnText(r, allBytes(), r.IntN(80))
	}
	return pick(r, "", "s", "t", "S", "BOLLARD", "BOLLARDs")
}

func drawnBody(r *rand.Rand) []byte {
	return []byte(drawnText(r, pick(r, allBytes(), "a", "\x00", "\n\r"), pick(r, 0, 0, 1, 5, 63, 64, r.IntN(200))))
}

// drawnDate is a date, often one near an end.
func drawnDate(r *rand.Rand) int {
	switch r.IntN(3) {
	case 0:
		return int(r.Uint64N(maxTime + 1))
	case 1:
		return maxTime - r.IntN(300)
	}
	return r.IntN(300)
}

// drawnFields are some fields, of all names, those that sign among them.
func drawnFields(r *rand.Rand) []api.Field {
	var out []api.Field
	for range r.IntN(5) {
		out = append(out, api.Field{Name: pick(r, "host", "x-date", "authorization", "X-Date", "Authorization", "x-date ", "", "a"), Value: pick(r, "", "0", "12", "x", "BOLLARD1 k:", strings.Repeat("0", 64))})
	}
	return out
}

// drawn is any request.
func drawn(r *rand.Rand) api.Request {
	return api.Request{
		Method: pick(r, "GET", "PUT", "POST", "", "get", "A\nB", drawnText(r, allBytes(), r.IntN(9))),
		Target: drawnTarget(r), Fields: drawnFields(r), Body: drawnBody(r),
	}
}

// drawnGood is a request that can be signed.
func drawnGood(r *rand.Rand) api.Request {
	for {
		out := drawn(r)
		if _, _, ok := plainCanonical(out.Target); ok {
			return out
		}
	}
}
