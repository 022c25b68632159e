package uri

import (
	"bollard/api"
	"math/rand/v2"
	"testing"
)

// backAndForth asks of a target what P17.2 says, if it is good, and tells whether it is.
func backAndForth(t *testing.T, target string) bool {
	t.Helper()
	want, fault := plainParse(target)
	parsed(t, target, want, fault)
	if fault != nil {
		return false
	}
	u, _ := Parse(target)
	asked(t, u)
	s := Join(u)
	back := api.Uri{Path: want.Path, Query: plainSorted(want.Query)}
	parsed(t, s, back, nil)
	again, err := Parse(s)
	holds(t, err == nil && Join(again) == s, "Join of Parse of Join of Parse of", text(target), text(Join(again)), err)
	return true
}

// P17.2: targets by hand.
func TestBack(t *testing.T) {
	for _, s := range []string{
		"/", "//", "/?", "/?&", "/?=", "/?==", "/?=&=", "/?a", "/?a=", "/?a&a", "/?b&a", "/?a=2&a=1", "/?%26&%3D=%3D&%3F", "/%3F?", "/%3f??", "/%25?%25=%25", "/%2541?%2541=%2541",
		"/a%20b?x=1&y", "/a b?x y=z z", "/%7e%2d%2e%5f?%41=%61", "/+?+=+&%2B=%2B", "/?/=1&-=2", "/?a=/&a=-", "/a/../b//?/a/=//", "/?=b&=a&a=&=", "/?~=!&!=~",
	} {
		holds(t, backAndForth(t, s), "Parse of", text(s))
	}
	for c := range 256 {
		s := string([]byte{byte(c)})
		for _, w := range append(spellings(c), s) {
			for _, form := range []string{"/" + w, "/?" + w, "/?a=" + w, "/" + w + "?" + w + "=" + w, "/?b=1&" + w + "=1&" + w + "=0&a=1"} {
				_ = backAndForth(t, form)
			}
		}
	}
}

// P17.2: what is joined is in the one form: other ways to write it come to the same text.
func TestOneForm(t *testing.T) {
	for _, s := range []string{"/a%20b?x=1&y", "/a b?y&x=1", "/%61%20b?&&y=&&x=1&", "/a%20b?%79&x=%31", "/a%20b?y=&x=1", "/%61 %62?%78=%31&%79="} {
		u, err := Parse(s)
		holds(t, err == nil && Join(u) == "/a%20b?x=1&y=", "Join of Parse of", text(s), text(Join(u)), err)
	}
	for _, s := range []string{"/", "/?", "/?&", "/?&&"} {
		u, err := Parse(s)
		holds(t, err == nil && Join(u) == "/", "Join of Parse of", text(s), text(Join(u)), err)
	}
}

// P17.2: drawn uris, written in any way, are taken as they are, and come back in Canonical's order.
func TestBackDrawn(t *testing.T) {
	r := source()
	for range 50000 {
		u := drawn(r)
		s := target(r, u)
		parsed(t, s, u, nil)
		holds(t, backAndForth(t, s), "Parse of", text(s))
		want := api.Uri{Path: u.Path, Query: plainSorted(u.Query)}
		parsed(t, Join(u), want, nil)
	}
}

// P17.1: two ways to write a uri are joined to the same text.
func TestTwoWays(t *testing.T) {
	r := source()
	for range 20000 {
		u := drawn(r)
		first, fault := Parse(target(r, u))
		r.Shuffle(len(u.Query), func(i, j int) { u.Query[i], u.Query[j] = u.Query[j], u.Query[i] })
		second, err := Parse(target(r, u))
		holds(t, fault == nil && err == nil && Join(first) == Join(second), "two ways to write", text(u), text(Join(first)), text(Join(second)))
	}
}

// stray are bytes that mean something in a target, and some that mean nothing.
const stray = "/?&=%%%+ 0149afAFgG-~\x00\x1f\x7f\x80\xff"

// spoilt is a text with some of its bytes changed, left out, put in or turned about.
func spoilt(r *rand.Rand, s string) string {
	for range 1 + r.IntN(3) {
		i := r.IntN(len(s) + 1)
		j := i + min(r.IntN(4), len(s)-i)
		switch r.IntN(4) {
		case 0:
			s = s[:i] + drawnText(r, stray, 1) + s[i:]
		case 1:
			s = s[:i] + s[j:]
		case 2:
			s = s[:i] + drawnText(r, stray, j-i) + s[j:]
		case 3:
			s = s[:j] + s[i:]
		}
	}
	return s
}

// P17.1, P17.2: spoilt targets come to what the other implementation says.
func TestSpoilt(t *testing.T) {
	r := source()
	var good, bad int
	for range 100000 {
		if backAndForth(t, spoilt(r, target(r, drawn(r)))) {
			good++
		} else {
			bad++
		}
	}
	holds(t, good > 10000 && bad > 10000, "taken and refused:", good, bad)
}

// P17.1, P17.2: every row of up to five bytes out of eight that mean something, behind a "/".
func TestEveryRow(t *testing.T) {
	const of = "/?&=%46a"
	rows := []string{"/"}
	for range 5 {
		var longer []string
		for _, s := range rows {
			_ = backAndForth(t, s)
			for i := range len(of) {
				longer = append(longer, s+of[i:i+1])
			}
		}
		rows = longer
	}
	for _, s := range rows {
		_ = backAndForth(t, s)
		_ = backAndForth(t, s[1:])
		refused(t, "a"+s)
	}
}

// P17.1, P17.2: rows of a few pieces of a target, in any order.
func TestPiecesOfTargets(t *testing.T) {
	r := source()
	of := []string{"/", "?", "&", "&", "=", "=", "%", "%4", "%41", "%3F", "%26", "%3d", "%25", "%00", "%7E", "%7F", "a", "a", "b", "ab", "-", "~", "+", " ", "\xff", "&a=", "&b=1", "=&", "%2f"}
	var good, bad int
	for range 100000 {
		s := "/"
		if r.IntN(2) == 0 {
			s = "/?"
		}
		for range r.IntN(9) {
			s += of[r.IntN(len(of))]
		}
		if backAndForth(t, s) {
			good++
		} else {
			bad++
		}
	}
	holds(t, good > 10000 && bad > 10000, "taken and refused:", good, bad)
}

// P17.1, P17.2: any bytes.
func TestAnyBytes(t *testing.T) {
	r := source()
	for range 20000 {
		for _, of := range []string{between(0, 255), between(32, 126), stray, telling, "/?&=%4"} {
			_ = backAndForth(t, "/"+drawnText(r, of, r.IntN(12)))
			_ = backAndForth(t, drawnText(r, of, r.IntN(12)))
		}
	}
}
