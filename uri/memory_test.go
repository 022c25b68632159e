package uri

import (
	"bollard/api"
	"math/rand/v2"
	"slices"
	"strings"
	"testing"
	"unsafe"
)

// changing is a text whose bytes change afterwards, as no text of the language does: what was kept of it would change too.
func changing(text string) (string, func()) {
	b := append([]byte(text), 'x')
	return unsafe.String(&b[0], len(text)), func() {
		for i := range b {
			b[i] = '#'
		}
	}
}

// roomy is a uri with spare room behind its pairs, filled with others, and what changes all of it.
func roomy(u api.Uri, behind []api.Pair) (api.Uri, func()) {
	path, change := changing(u.Path)
	all := []func(){change}
	var list []api.Pair
	for _, p := range append(slices.Clone(u.Query), behind...) {
		name, first := changing(p.Name)
		value, second := changing(p.Value)
		list = append(list, api.Pair{Name: name, Value: value})
		all = append(all, first, second)
	}
	out := api.Uri{Path: path, Query: list[:len(u.Query)]}
	return out, func() {
		for _, change := range all {
			change()
		}
		fill(out)
	}
}

// fill puts other pairs into the list, spare room included.
func fill(u api.Uri) {
	for i := range u.Query[:cap(u.Query)] {
		u.Query[:cap(u.Query)][i] = api.Pair{Name: "over", Value: "over"}
	}
}

// inside is all that a uri holds, spare room included.
func inside(u api.Uri) string {
	return text(u.Path) + text(u.Query[:cap(u.Query)])
}

// clean asks that nothing is handed out behind the pairs.
func clean(t *testing.T, u api.Uri) {
	t.Helper()
	for _, p := range u.Query[len(u.Query):cap(u.Query)] {
		holds(t, p == api.Pair{}, "something is handed out behind pairs:", text(p))
	}
}

// samples are uris of all kinds: without pairs and with many, as Parse answers them and as it doesn't.
func samples() []api.Uri {
	out := []api.Uri{
		{}, uri("/"), uri("/aaa/k"), uri("/a b", "x", "1", "y", ""), uri("/", "", ""), uri("/p", "b", "2", "a", "1", "b", "1", "b", "1"),
		uri("", "c", "", "b", "", "a", ""), uri("\xff", "\x00", "\xff", "/", "-", "-", "/"), uri("/%41", "%42", "%43", "%41", "+"),
	}
	r := source()
	for range 50 {
		out = append(out, drawn(r), drawnAny(r))
	}
	return out
}

// goodSamples are those that Parse answers.
func goodSamples(r *rand.Rand) []api.Uri {
	out := []api.Uri{uri("/"), uri("/aaa"), uri("/aaa/k", "a", "1"), uri("/p", "b", "", "", "a", "b", "")}
	for range 200 {
		out = append(out, drawn(r))
	}
	return out
}

// Rule 4: Parse keeps nothing of what it is handed, and what is answered is shared neither with it nor with what is answered later.
func TestParseMemory(t *testing.T) {
	r := source()
	for _, want := range goodSamples(r) {
		whole := target(r, want)
		s, change := changing(whole)
		u, err := Parse(s)
		again, fault := Parse(s)
		holds(t, err == nil && fault == nil && s == whole, "Parse of", text(whole), err, fault)
		clean(t, u)
		change()
		holds(t, same(u, want), "Parse keeps what it is handed:", text(u))
		fill(u)
		_ = append(u.Query, pairs("behind", "b")...)
		holds(t, same(again, want), "two answers of Parse share memory:", text(again))
		parsed(t, whole, want, nil)
	}
}

// Rule 4: bytes behind a target's end are neither read nor handed out, be it good or wrong.
func TestParseBehind(t *testing.T) {
	for _, whole := range []string{"/aaa?x=1&y=2", "/%41%42?%43=%44&%45", "/a%", "/?a=%4", "/?a&&b&"} {
		for n := range len(whole) + 1 {
			for _, behind := range []string{whole[n:], "41", "1", "&b=2", "?c=3", "\xff", "%zz"} {
				b := []byte(whole[:n] + behind)
				u, err := Parse(unsafe.String(&b[0], n))
				want, fault := plainParse(whole[:n])
				holds(t, same(u, want) && err == fault, "Parse of", text(whole[:n]), "ahead of", text(behind), text(u), err)
				clean(t, u)
			}
		}
	}
}

// Rule 4: nothing is handed out behind no pairs either, whatever the query has.
func TestNoneMemory(t *testing.T) {
	for _, s := range []string{"/", "/?", "/?&", "/?&&", "/?&&&&&&&&&", "/a%20b?&"} {
		u, err := Parse(s)
		holds(t, err == nil && len(u.Query) == 0, "Parse of", text(s), text(u), err)
		clean(t, u)
	}
}

// Rule 2: beside ErrUri stands the zero value.
func TestRefusedMemory(t *testing.T) {
	for _, s := range []string{"", "a", "a?b=c", "/%", "/ok?a=1&b=%", "/ok?a=1&%=2", "/ok?a=1&b=2&c=\xff", "/\xff?a=1"} {
		u, err := Parse(s)
		holds(t, err == api.ErrUri && u.Path == "" && len(u.Query) == 0, "Parse of", text(s), text(u), err)
		clean(t, u)
	}
}

// Rule 4: Get, Canonical and Join change nothing of what they are handed, the pairs' order among it, read nothing behind it, and keep nothing of it.
func TestUriMemory(t *testing.T) {
	for _, sample := range samples() {
		for _, room := range []int{0, 1, 9} {
			u, change := roomy(sample, slices.Repeat(pairs("behind", "b", "", ""), room))
			before := inside(u)
			path, query := Canonical(u)
			whole := Join(u)
			wantPath, wantQuery := plainCanonical(sample)
			wantWhole := plainJoin(sample)
			holds(t, inside(u) == before, "Canonical or Join changes what it is handed:", text(sample))
			holds(t, path == wantPath && query == wantQuery && whole == wantWhole, "Canonical or Join of", text(sample), text(path), text(query), text(whole))
			value, ok := Get(u, "behind")
			holds(t, value == "" && !ok, "Get reads behind the pairs:", text(value), ok)
			var values []string
			for _, p := range sample.Query {
				name, other := changing(p.Name)
				value, ok := Get(u, name)
				holds(t, ok && name == p.Name && inside(u) == before, "Get of", text(p.Name), text(value), ok)
				other()
				values = append(values, value)
			}
			change()
			holds(t, path == wantPath && query == wantQuery && whole == wantWhole, "Canonical or Join keeps what it is handed:", text(path), text(query), text(whole))
			for i, p := range sample.Query {
				want, _ := plainGet(sample, p.Name)
				holds(t, values[i] == want, "Get's answer is shared with what it was handed:", text(values[i]))
			}
		}
	}
}

// Rule 4: Get of an empty name reads nothing behind the pairs either.
func TestGetBehind(t *testing.T) {
	u, _ := roomy(uri("/", "a", "1"), pairs("", "2", "b", "3"))
	for _, name := range []string{"", "b"} {
		value, ok := Get(u, name)
		holds(t, value == "" && !ok, "Get reads behind the pairs:", text(name), text(value), ok)
	}
}

// Rule 4: Encode keeps nothing of what it is handed, also where each byte is as it is.
func TestEncodeMemory(t *testing.T) {
	for _, want := range []string{"", "a", "plain-_.~", "/", "a/b c", "\x00\xff", strings.Repeat("a", 100), strings.Repeat("%", 100)} {
		for _, slash := range []bool{true, false} {
			s, change := changing(want)
			out := Encode(s, slash)
			again := Encode(s, slash)
			holds(t, s == want, "Encode changes what it is handed:", text(want))
			change()
			holds(t, out == plainEncode(want, slash) && again == out, "Encode keeps what it is handed:", text(out), text(again))
		}
	}
}

// Rule 4: a row of pairs of which several uris have a beginning stays as it is.
func TestOneRowOfPairs(t *testing.T) {
	all := pairs("d", "4", "c", "3", "b", "2", "a", "1")
	for n := range len(all) + 1 {
		sample := api.Uri{Path: "/", Query: slices.Clone(all[:n])}
		path, query := plainCanonical(sample)
		joined(t, api.Uri{Path: "/", Query: all[:n]}, path, query, plainJoin(sample))
	}
	holds(t, text(all) == text(pairs("d", "4", "c", "3", "b", "2", "a", "1")), "pairs are changed:", text(all))
}

// Rule 8: what a call answers hangs on nothing that was called ahead, refused or not.
func TestCallsApart(t *testing.T) {
	r := source()
	all := goodSamples(r)[:40]
	for _, u := range all {
		s := target(r, u)
		for _, other := range all {
			_, _ = Parse(target(r, other))
			_, _ = Parse(target(r, other) + "%")
			_, _ = Parse("a")
			_ = Join(other)
			_, _ = Get(other, "a")
			_ = Encode(other.Path, false)
			parsed(t, s, u, nil)
		}
		asked(t, u)
	}
}

// Rule 8: calls side by side answer what they answer alone.
func TestSideBySide(t *testing.T) {
	r := source()
	u := uri("/p", "b", "2", "a", "1", "b", "1")
	s := target(r, u)
	results := make(chan string)
	for range 8 {
		go func() {
			out := ""
			for range 200 {
				back, err := Parse(s)
				value, ok := Get(u, "b")
				if err != nil || !same(back, u) || value != "2" || !ok {
					out = "Parse or Get"
				}
				if Join(u) != "/p?a=1&b=1&b=2" || Join(back) != "/p?a=1&b=1&b=2" {
					out = "Join"
				}
			}
			results <- out
		}()
	}
	for range 8 {
		out := <-results
		holds(t, out == "", "calls side by side:", out)
	}
}
