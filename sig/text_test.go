package sig

import (
	"bollard/api"
	"strconv"
	"strings"
	"testing"
)

// Digests of bodies, worked out apart from the program.
const (
	ofNothing = "e3b0c44298fc1c149afbf4c8996fb92427ae41e4649b934ca495991b7852b855"
	ofHello   = "2cf24dba5fb0a30e26e83b2ac5b9e29e1b161e5c1fa7425e73043362938b9824"
	ofAll     = "40aff2e9d2d8922e47afd4648e6967497158785fbd1da870e7110266bf944880"
	ofOne     = "4bf5122f344554c53bde2ebb8cd2b7e3d1600ad631c385a5d7cce23c7785459a"
)

// P18.1: what is signed, by hand.
func TestText(t *testing.T) {
	texted(t, asking("GET", "/aaa", ""), 12, "BOLLARD1\n12\nGET\n/aaa\n\n"+ofNothing, nil)
	texted(t, asking("PUT", "/aaa/k", "hello"), 0, "BOLLARD1\n0\nPUT\n/aaa/k\n\n"+ofHello, nil)
	texted(t, asking("POST", "/a%20b?x=1&y&x=0", allBytes()), maxTime, "BOLLARD1\n1099511627776\nPOST\n/a%20b\nx=0&x=1&y=\n"+ofAll, nil)
	texted(t, asking("DELETE", "/aaa/a/b?upload=0-0-1", "\x01"), 300, "BOLLARD1\n300\nDELETE\n/aaa/a/b\nupload=0-0-1\n"+ofOne, nil)
	texted(t, api.Request{Target: "/"}, 1, "BOLLARD1\n1\n\n/\n\n"+ofNothing, nil)
}

// P18.1: dates at and beyond the ends.
func TestTextDates(t *testing.T) {
	for date, good := range farDates() {
		if good {
			texted(t, asking("GET", "/aaa", ""), date, "BOLLARD1\n"+strconv.Itoa(date)+"\nGET\n/aaa\n\n"+ofNothing, nil)
		} else {
			texted(t, asking("GET", "/aaa", ""), date, "", api.ErrRequest)
		}
	}
}

// P18.1: a wrong target is told ahead of a wrong date.
func TestTextWrongTargets(t *testing.T) {
	for _, target := range badTargets() {
		for date := range farDates() {
			texted(t, asking("GET", target, "b", "host", "x"), date, "", api.ErrUri)
		}
	}
}

// P18.1: a target comes into the text in one form, however it is written.
func TestTextTargets(t *testing.T) {
	for target, lines := range goodTargets() {
		texted(t, asking("GET", target, "hello"), 7, "BOLLARD1\n7\nGET\n"+lines+"\n"+ofHello, nil)
		for date, good := range farDates() {
			if !good {
				texted(t, asking("GET", target, "hello"), date, "", api.ErrRequest)
			}
		}
	}
}

// P18.1: a method is taken as it is, whatever it is.
func TestTextMethods(t *testing.T) {
	for _, method := range []string{"", "get", "GET ", " GET", "A\nB", "\n", "\x00", "\u00e4", allBytes(), strings.Repeat("M", 5000)} {
		texted(t, asking(method, "/", ""), 5, "BOLLARD1\n5\n"+method+"\n/\n\n"+ofNothing, nil)
	}
	for c := range 256 {
		method := string([]byte{byte(c)})
		texted(t, asking(method, "/", ""), 5, "BOLLARD1\n5\n"+method+"\n/\n\n"+ofNothing, nil)
	}
}

// P18.1: of a body only its digest comes into the text, of a body of any length.
func TestTextBodies(t *testing.T) {
	for n := range 300 {
		r := asking("PUT", "/a", strings.Repeat("b", n))
		want, err := plainText(r, 1)
		texted(t, r, 1, want, err)
		s, _ := Text(r, 1)
		holds(t, err == nil && len(s) == len("BOLLARD1\n1\nPUT\n/a\n\n")+64, "Text's length:", len(s))
	}
	for c := range 256 {
		r := asking("PUT", "/a", string([]byte{byte(c)}))
		want, err := plainText(r, 1)
		texted(t, r, 1, want, err)
	}
	r := asking("PUT", "/a", strings.Repeat(allBytes(), 400))
	want, err := plainText(r, 1)
	texted(t, r, 1, want, err)
	texted(t, api.Request{Method: "PUT", Target: "/a", Body: []byte{}}, 1, "BOLLARD1\n1\nPUT\n/a\n\n"+ofNothing, nil)
}

// P18.1: no field comes into the text, not even those that sign.
func TestTextFields(t *testing.T) {
	want := "BOLLARD1\n12\nGET\n/aaa\n\n" + ofNothing
	for _, all := range [][]string{nil, {"host", "x"}, {"x-date", "13"}, {"authorization", "x"}, {"x-date", "13", "x-date", "14", "authorization", ""}, {"", ""}, {"content-length", "9"}} {
		texted(t, asking("GET", "/aaa", "", all...), 12, want, nil)
	}
}
