package uri

import (
	"bollard/api"
	"fmt"
	"math/rand/v2"
	"strings"
	"testing"
)

// source gives the same numbers on every run.
func source() *rand.Rand { return rand.New(rand.NewPCG(17, 4096)) }

// text is a thing in words, in which nil and empty lists are the same.
func text(x any) string { return fmt.Sprintf("%+q", x) }

// holds tells what was asked, if it doesn't hold.
func holds(t *testing.T, ok bool, what ...any) {
	t.Helper()
	if !ok {
		t.Fatal(what...)
	}
}

// pairs are names and values, one behind the other.
func pairs(all ...string) []api.Pair {
	var out []api.Pair
	for i := 0; i+1 < len(all); i += 2 {
		out = append(out, api.Pair{Name: all[i], Value: all[i+1]})
	}
	return out
}

// uri is a path with pairs.
func uri(path string, all ...string) api.Uri { return api.Uri{Path: path, Query: pairs(all...)} }

// same tells whether two are the same path and the same pairs in the same order.
func same(a, b api.Uri) bool {
	if a.Path != b.Path || len(a.Query) != len(b.Query) {
		return false
	}
	for i := range a.Query {
		if a.Query[i] != b.Query[i] {
			return false
		}
	}
	return true
}

// parsed asks what Parse answers, and whether the other implementation answers the same.
func parsed(t *testing.T, target string, want api.Uri, fault error) {
	t.Helper()
	u, err := Parse(target)
	if !same(u, want) || err != fault {
		t.Fatalf("Parse of %+q: %s, %v in the place of %s, %v", target, text(u), err, text(want), fault)
	}
	u, err = plainParse(target)
	if !same(u, want) || err != fault {
		t.Fatalf("the other implementation of %+q: %s, %v in the place of %s, %v", target, text(u), err, text(want), fault)
	}
}

// taken asks that a target is a path with these pairs.
func taken(t *testing.T, target, path string, all ...string) {
	t.Helper()
	parsed(t, target, uri(path, all...), nil)
}

// refused asks for ErrUri.
func refused(t *testing.T, target string) {
	t.Helper()
	parsed(t, target, api.Uri{}, api.ErrUri)
}

// judged asks that a target is a path with these pairs if it is good, and for ErrUri if it isn't.
func judged(t *testing.T, target string, good bool, path string, all ...string) {
	t.Helper()
	if good {
		taken(t, target, path, all...)
	} else {
		refused(t, target)
	}
}

// got asks what Get answers, of both implementations.
func got(t *testing.T, u api.Uri, name, want string, there bool) {
	t.Helper()
	if value, ok := Get(u, name); value != want || ok != there {
		t.Fatalf("Get of %+q in %s: %+q, %t in the place of %+q, %t", name, text(u), value, ok, want, there)
	}
	if value, ok := plainGet(u, name); value != want || ok != there {
		t.Fatalf("the other implementation of Get of %+q in %s: %+q, %t in the place of %+q, %t", name, text(u), value, ok, want, there)
	}
}

// encoded asks what Encode answers, of both implementations.
func encoded(t *testing.T, s string, slash bool, want string) {
	t.Helper()
	if out := Encode(s, slash); out != want {
		t.Fatalf("Encode of %+q, %t: %+q in the place of %+q", s, slash, out, want)
	}
	if out := plainEncode(s, slash); out != want {
		t.Fatalf("the other implementation of Encode of %+q, %t: %+q in the place of %+q", s, slash, out, want)
	}
}

// joined asks what Canonical and Join answer, of both implementations.
func joined(t *testing.T, u api.Uri, path, query, whole string) {
	t.Helper()
	if p, q := Canonical(u); p != path || q != query {
		t.Fatalf("Canonical of %s: %+q, %+q in the place of %+q, %+q", text(u), p, q, path, query)
	}
	if s := Join(u); s != whole {
		t.Fatalf("Join of %s: %+q in the place of %+q", text(u), s, whole)
	}
	if p, q := plainCanonical(u); p != path || q != query {
		t.Fatalf("the other implementation of Canonical of %s: %+q, %+q in the place of %+q, %+q", text(u), p, q, path, query)
	}
	if s := plainJoin(u); s != whole {
		t.Fatalf("the other implementation of Join of %s: %+q in the place of %+q", text(u), s, whole)
	}
}

// asked asks all calls about a uri what the other implementation says, for each of its names and some others.
func asked(t *testing.T, u api.Uri) {
	t.Helper()
	path, query := plainCanonical(u)
	joined(t, u, path, query, plainJoin(u))
	names := []string{"", "x", "absent", u.Path}
	for _, p := range u.Query {
		names = append(names, p.Name, p.Value, p.Name+"x")
	}
	for _, name := range names {
		value, ok := plainGet(u, name)
		got(t, u, name, value, ok)
	}
}

// between are the bytes from one to another, both among them.
func between(from, to byte) string {
	var out []byte
	for c := int(from); c <= int(to); c++ {
		out = append(out, byte(c))
	}
	return string(out)
}

// drawnText is some bytes out of those of a text.
func drawnText(r *rand.Rand, of string, n int) string {
	var out strings.Builder
	for range n {
		out.WriteByte(of[r.IntN(len(of))])
	}
	return out.String()
}

// telling are bytes that mean something in a target or stand beside some that do, and a few others.
const telling = "/?&=%+ -_.~!09:@AFGZ[`afgz{ab"

// drawnPart is a path, a name or a value as they may come, often short.
func drawnPart(r *rand.Rand) string {
	switch r.IntN(4) {
	case 0:
		return drawnText(r, between(32, 126), r.IntN(12))
	case 1:
		return drawnText(r, telling, r.IntN(4))
	}
	return drawnText(r, "ab", r.IntN(3))
}

// drawn is any uri that Parse may answer.
func drawn(r *rand.Rand) api.Uri {
	u := api.Uri{Path: "/" + drawnPart(r)}
	for range r.IntN(7) {
		u.Query = append(u.Query, api.Pair{Name: drawnPart(r), Value: drawnPart(r)})
	}
	return u
}

// drawnAny is any uri at all.
func drawnAny(r *rand.Rand) api.Uri {
	all := between(0, 255)
	u := api.Uri{Path: drawnText(r, all, r.IntN(6))}
	for range r.IntN(7) {
		u.Query = append(u.Query, api.Pair{Name: drawnText(r, all, r.IntN(3)), Value: drawnText(r, all, r.IntN(3))})
		if r.IntN(4) == 0 {
			u.Query = append(u.Query, api.Pair{Name: u.Query[0].Name, Value: drawnText(r, all, r.IntN(2))})
		}
	}
	return u
}

// otherwise is a text with some bytes written with "%", those that would cut it always.
func otherwise(r *rand.Rand, s, cuts string) string {
	var out strings.Builder
	for i := range len(s) {
		c := s[i]
		if c != '%' && strings.IndexByte(cuts, c) < 0 && r.IntN(4) > 0 {
			out.WriteByte(c)
			continue
		}
		digits := fmt.Sprintf("%02x", c)
		for _, d := range []string{digits[:1], digits[1:]} {
			if r.IntN(2) == 0 {
				d = strings.ToUpper(d)
			}
			digits += d
		}
		out.WriteString("%" + digits[2:])
	}
	return out.String()
}

// target is a uri written in any way that is told: with more bytes behind "%" than there need be, with empty pieces, and without "=" where a value is empty.
func target(r *rand.Rand, u api.Uri) string {
	out := "/" + otherwise(r, u.Path[1:], "?")
	if len(u.Query) > 0 || r.IntN(3) == 0 {
		out += "?"
	}
	if len(u.Query) == 0 {
		return out
	}
	for i, p := range u.Query {
		if i > 0 {
			out += "&"
		}
		if r.IntN(8) == 0 {
			out += strings.Repeat("&", r.IntN(3))
		}
		out += otherwise(r, p.Name, "&=")
		if p.Name == "" || p.Value != "" || r.IntN(2) == 0 {
			out += "=" + otherwise(r, p.Value, "&")
		}
	}
	return out + strings.Repeat("&", max(0, r.IntN(6)-3))
}
