package uri

import (
	"bollard/api"
	"testing"
)

// P17.1: Get of names that are there once, several times and not at all, with values and without.
func TestGet(t *testing.T) {
	u := uri("/p", "b", "2", "a", "1", "b", "3", "c", "", "", "4", "ab", "5", "c", "6")
	got(t, u, "a", "1", true)
	got(t, u, "b", "2", true)
	got(t, u, "c", "", true)
	got(t, u, "", "4", true)
	got(t, u, "ab", "5", true)
	for _, name := range []string{"d", "A", "B", "1", "/p", "abc", "a ", " a", "a=1", "a=", "=", "%61", "\x00", "a\x00", "\xff", "ac", "aa"} {
		got(t, u, name, "", false)
	}
}

// P17.1: Get of a uri without pairs, of any path.
func TestGetOfNone(t *testing.T) {
	for _, u := range []api.Uri{{}, {Path: "/"}, {Path: "/", Query: []api.Pair{}}, {Path: "a"}} {
		for _, name := range []string{"", "a", "/"} {
			got(t, u, name, "", false)
		}
	}
}

// P17.1: the first pair counts, wherever the same name stands again.
func TestGetFirst(t *testing.T) {
	for n := range 5 {
		var u api.Uri
		for range n {
			u.Query = append(u.Query, api.Pair{Name: "other", Value: "o"})
		}
		got(t, u, "x", "", false)
		u.Query = append(u.Query, api.Pair{Name: "x", Value: "first"})
		got(t, u, "x", "first", true)
		for _, value := range []string{"", "first", "aaa", "zzz"} {
			u.Query = append(u.Query, api.Pair{Name: "x", Value: value})
			got(t, u, "x", "first", true)
		}
	}
	got(t, uri("/", "x", "", "x", "1"), "x", "", true)
	got(t, uri("/", "", "", "", "1"), "", "", true)
}

// P17.1: names of which one is the beginning of another, or that have the same bytes in great and small letters, are other names.
func TestGetBeginnings(t *testing.T) {
	names := []string{"", "a", "ab", "abc", "abcd", "A", "Ab", "aB", "AB"}
	for i := range names {
		var u api.Uri
		for j, name := range names {
			if j != i {
				u.Query = append(u.Query, api.Pair{Name: name, Value: name + "!"})
			}
		}
		for j, name := range names {
			if j != i {
				got(t, u, name, name+"!", true)
			} else {
				got(t, u, name, "", false)
			}
		}
	}
}

// P17.1: Get of names and values that Parse never answers.
func TestGetAny(t *testing.T) {
	u := uri("", "\x00", "\xff", "ä", "ö", "%41", "%42", "\xff\xfe", "")
	got(t, u, "\x00", "\xff", true)
	got(t, u, "ä", "ö", true)
	got(t, u, "%41", "%42", true)
	got(t, u, "\xff\xfe", "", true)
	got(t, u, "A", "", false)
	got(t, u, "\xc3", "", false)
	got(t, u, "\xff", "", false)
}

// P17.1: Get of what Parse answers: names are asked for as they are decoded.
func TestGetParsed(t *testing.T) {
	u, err := Parse("/aaa?max=1&%74oken=%36%31&max=2&y&a%3Db=c%26d")
	holds(t, err == nil, "Parse:", err)
	got(t, u, "max", "1", true)
	got(t, u, "token", "61", true)
	got(t, u, "y", "", true)
	got(t, u, "a=b", "c&d", true)
	got(t, u, "%74oken", "", false)
	got(t, u, "a", "", false)
}
