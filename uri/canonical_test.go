package uri

import (
	"bollard/api"
	"slices"
	"strings"
	"testing"
)

// P17.1: no pair: there is no "?".
func TestJoinOfNone(t *testing.T) {
	joined(t, api.Uri{}, "", "", "")
	joined(t, uri("/"), "/", "", "/")
	joined(t, api.Uri{Path: "/", Query: []api.Pair{}}, "/", "", "/")
	joined(t, uri("/aaa/k"), "/aaa/k", "", "/aaa/k")
	joined(t, uri("/a b/c?d"), "/a%20b/c%3Fd", "", "/a%20b/c%3Fd")
	joined(t, uri("//"), "//", "", "//")
}

// P17.1: one pair: it is written with its "=", whatever is empty.
func TestJoinOfOne(t *testing.T) {
	joined(t, uri("/", "a", "1"), "/", "a=1", "/?a=1")
	joined(t, uri("/", "a", ""), "/", "a=", "/?a=")
	joined(t, uri("/", "", "1"), "/", "=1", "/?=1")
	joined(t, uri("/", "", ""), "/", "=", "/?=")
	joined(t, uri("/a/b", "/", "/"), "/a/b", "%2F=%2F", "/a/b?%2F=%2F")
	joined(t, uri("/=&?", "=", "="), "/%3D%26%3F", "%3D=%3D", "/%3D%26%3F?%3D=%3D")
	joined(t, uri("/&", "&", "?"), "/%26", "%26=%3F", "/%26?%26=%3F")
	joined(t, uri("/%", "%41", "+ "), "/%25", "%2541=%2B%20", "/%25?%2541=%2B%20")
}

// P17.1: many pairs: by rising name, of one name by rising value.
func TestJoinOfMany(t *testing.T) {
	joined(t, uri("/p", "b", "1", "a", "2"), "/p", "a=2&b=1", "/p?a=2&b=1")
	joined(t, uri("/p", "a", "2", "a", "1"), "/p", "a=1&a=2", "/p?a=1&a=2")
	joined(t, uri("/p", "a", "1", "a", "1"), "/p", "a=1&a=1", "/p?a=1&a=1")
	joined(t, uri("/p", "a", "1", "a", ""), "/p", "a=&a=1", "/p?a=&a=1")
	joined(t, uri("/p", "", "", "", ""), "/p", "=&=", "/p?=&=")
	joined(t, uri("/p", "ab", "1", "a", "2", "", "3", "abc", "0"), "/p", "=3&a=2&ab=1&abc=0", "/p?=3&a=2&ab=1&abc=0")
	joined(t, uri("/p", "a", "10", "a", "9", "a", "1", "a", "100"), "/p", "a=1&a=10&a=100&a=9", "/p?a=1&a=10&a=100&a=9")
	joined(t, uri("/p", "b", "", "B", "", "a", "", "A", "", "_", "", "~", "", "0", ""), "/p", "0=&A=&B=&_=&a=&b=&~=", "/p?0=&A=&B=&_=&a=&b=&~=")
	joined(t, uri("/p", "ab", "c", "a", "bc", "abc", ""), "/p", "a=bc&ab=c&abc=", "/p?a=bc&ab=c&abc=")
}

// P17.1: it is the pairs as they are that stand in order, not as they are encoded, nor with their "=".
func TestPlainOrder(t *testing.T) {
	// "%" comes ahead of "-", "/" behind it, and "=" is behind most of what may go on in a name.
	joined(t, uri("/", "/", "1", "-", "2"), "/", "-=2&%2F=1", "/?-=2&%2F=1")
	joined(t, uri("/", "-", "2", "/", "1"), "/", "-=2&%2F=1", "/?-=2&%2F=1")
	joined(t, uri("/", "{", "1", "z", "2", "A", "3"), "/", "A=3&z=2&%7B=1", "/?A=3&z=2&%7B=1")
	joined(t, uri("/", "@", "", "0", "", "A", ""), "/", "0=&%40=&A=", "/?0=&%40=&A=")
	joined(t, uri("/", "a", "/", "a", "-", "a", " "), "/", "a=%20&a=-&a=%2F", "/?a=%20&a=-&a=%2F")
	joined(t, uri("/", "a", "{", "a", "z", "a", ""), "/", "a=&a=z&a=%7B", "/?a=&a=z&a=%7B")
	joined(t, uri("/", "a", "", "a-", "", "a0", "", "a>", "", "a?", ""), "/", "a=&a-=&a0=&a%3E=&a%3F=", "/?a=&a-=&a0=&a%3E=&a%3F=")
	joined(t, uri("/", "a=", "0", "a", "=1", "a", "1"), "/", "a=1&a=%3D1&a%3D=0", "/?a=1&a=%3D1&a%3D=0")
	joined(t, uri("/", "a&b", "1", "a", "&b"), "/", "a=%26b&a%26b=1", "/?a=%26b&a%26b=1")
	joined(t, uri("/", "\xff", "", "~", "", "\x7f", ""), "/", "~=&%7F=&%FF=", "/?~=&%7F=&%FF=")
	joined(t, uri("/", "ä", "", "z", "", "\xc3", ""), "/", "z=&%C3=&%C3%A4=", "/?z=&%C3=&%C3%A4=")
	joined(t, uri("/", "\x80", "", "\u0080", "", "\uffff", ""), "/", "%80=&%C2%80=&%EF%BF%BF=", "/?%80=&%C2%80=&%EF%BF%BF=")
}

// P17.1: every byte as a name, and as a value, stands where its number says.
func TestOrderOfBytes(t *testing.T) {
	r := source()
	names, values := uri("/"), uri("/")
	var byName, byValue []string
	for c := range 256 {
		s := string([]byte{byte(c)})
		names.Query = append(names.Query, api.Pair{Name: s, Value: "v"})
		values.Query = append(values.Query, api.Pair{Name: "n", Value: s})
		byName = append(byName, plainEncode(s, false)+"=v")
		byValue = append(byValue, "n="+plainEncode(s, false))
	}
	first, second := strings.Join(byName, "&"), strings.Join(byValue, "&")
	for range 50 {
		joined(t, names, "/", first, "/?"+first)
		joined(t, values, "/", second, "/?"+second)
		r.Shuffle(256, func(i, j int) {
			names.Query[i], names.Query[j] = names.Query[j], names.Query[i]
			values.Query[i], values.Query[j] = values.Query[j], values.Query[i]
		})
	}
}

// orders calls with every order of some pairs.
func orders(list []api.Pair, n int, call func()) {
	if n == len(list) {
		call()
		return
	}
	for i := n; i < len(list); i++ {
		list[n], list[i] = list[i], list[n]
		orders(list, n+1, call)
		list[n], list[i] = list[i], list[n]
	}
}

// P17.1: pairs in any order come to the same.
func TestAnyOrder(t *testing.T) {
	for _, all := range [][]string{
		{"", "", "", "a", "a", "", "a", "a", "a", "b", "ab", ""},
		{"a", "1", "a", "1", "a", "2", "b", "0", "b", "0", "", "9"},
		{"-", "/", "/", "-", "/", "/", "-", "-", "%", "z", "=", "&"},
		{"x", "\xff", "x", "\x00", "x", "~", "\xff", "x", "\x00", "x", "X", "x"},
	} {
		for n := range len(all)/2 + 1 {
			u := uri("/a b/"+all[0], all[:2*n]...)
			path, query := plainCanonical(u)
			whole := plainJoin(u)
			orders(u.Query, 0, func() { joined(t, u, path, query, whole) })
		}
	}
}

// P17.1: paths and pairs that Parse never answers: any bytes, an empty path, a path without a slash.
func TestAnyUri(t *testing.T) {
	joined(t, uri("", "a", "1"), "", "a=1", "?a=1")
	joined(t, uri("", "", ""), "", "=", "?=")
	joined(t, uri("aaa"), "aaa", "", "aaa")
	joined(t, uri("aaa", "b", "2"), "aaa", "b=2", "aaa?b=2")
	joined(t, uri("?"), "%3F", "", "%3F")
	joined(t, uri("?", "?", "?"), "%3F", "%3F=%3F", "%3F?%3F=%3F")
	joined(t, uri("\x00", "\x01", "\x7f"), "%00", "%01=%7F", "%00?%01=%7F")
	joined(t, uri("\xff/\xfe", "\xfd/", "/\xfc"), "%FF/%FE", "%FD%2F=%2F%FC", "%FF/%FE?%FD%2F=%2F%FC")
	joined(t, uri("a\r\nb", "\r", "\n"), "a%0D%0Ab", "%0D=%0A", "a%0D%0Ab?%0D=%0A")
	joined(t, uri("ä", "ö", "ü"), "%C3%A4", "%C3%B6=%C3%BC", "%C3%A4?%C3%B6=%C3%BC")
	r := source()
	for range 30000 {
		asked(t, drawnAny(r))
	}
}

// P17.1: uris as Parse answers them.
func TestDrawnUri(t *testing.T) {
	r := source()
	for range 30000 {
		asked(t, drawn(r))
	}
}

// P17.1: long rows of pairs, falling, rising and drawn.
func TestLongRows(t *testing.T) {
	r := source()
	for _, n := range []int{11, 12, 13, 49, 50, 51, 100, 1000} {
		u := uri("/long")
		for range n {
			u.Query = append(u.Query, api.Pair{Name: drawnText(r, "ab", r.IntN(6)), Value: drawnText(r, "-/a", r.IntN(3))})
		}
		path, query := plainCanonical(u)
		joined(t, u, path, query, path+"?"+query)
		u.Query = plainSorted(u.Query)
		joined(t, u, path, query, path+"?"+query)
		slices.Reverse(u.Query)
		joined(t, u, path, query, path+"?"+query)
	}
	var u api.Uri
	var want []string
	for i := range 200000 {
		u.Query = append(u.Query, api.Pair{Name: "n", Value: "v"})
		if i%2 == 0 {
			want = append(want, "n=v&n=v")
		}
	}
	_, query := Canonical(u)
	holds(t, query == strings.Join(want, "&"), "Canonical of many equal pairs:", len(query))
}
