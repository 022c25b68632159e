package sig

import (
	"bollard/api"
	"math"
	"slices"
	"strings"
	"testing"
)

// right is the signature of GET /aaa at 12 under the secret "s", worked out apart from the program; wrong is one that isn't.
const (
	right = "a0f306bee178bbd602aac62027f0130a74f298f8e24c5329f10f9d1ae95d7161"
	wrong = "a0f306bee178bbd602aac62027f0130a74f298f8e24c5329f10f9d1ae95d7160"
)

// said is GET /aaa with these two fields.
func said(date, claim string) api.Request {
	return asking("GET", "/aaa", "", "x-date", date, "authorization", claim)
}

// P18.1, P18.2: the chapter's example.
func TestExample(t *testing.T) {
	r := said("12", "BOLLARD1 k:"+right)
	signs(t, asking("GET", "/aaa", ""), api.Key{Name: "k", Secret: "s"}, 12, r, nil)
	keys := one("k", "s")
	checked(t, r, keys, 12, "k", nil)
	checked(t, r, keys, 112, "k", nil)
	checked(t, r, keys, 113, "", api.ErrSkew)
	checked(t, r, keys, -88, "k", nil)
	checked(t, r, keys, -89, "", api.ErrSkew)
	r.Body = []byte("b")
	checked(t, r, keys, 12, "", api.ErrDenied)
}

// P18.1, P18.3: of several faults the one that the chapter names first is told.
func TestCheckErrors(t *testing.T) {
	forms := []api.Request{
		asking("GET", "/aaa", ""), said("012", "BOLLARD1 k:"+right), said("12", "BOLLARD1 k:"+strings.ToUpper(right)), said("12", "BOLLARD1 :"+right), asking("GET", "/aaa", "", "x-date", "12"),
		asking("GET", "/aaa", "", "authorization", "BOLLARD1 k:"+right), said("1099511627777", "BOLLARD1 k:"+wrong), asking("GET", "/aaa", "", "x-date", "12", "x-date", "12", "authorization", "BOLLARD1 k:"+right),
	}
	denied := []api.Request{said("12", "BOLLARD1 k:"+wrong), said("12", "BOLLARD1 other:"+right), said("12", "BOLLARD1 absent:"+right), said("13", "BOLLARD1 k:"+right)}
	good := said("12", "BOLLARD1 k:"+right)
	keys := []api.Key{{Name: "k", Secret: "s"}, {Name: "other", Secret: "t"}}
	for _, now := range []int{math.MinInt, -1000, -89, -88, 12, 112, 113, maxTime, maxTime + 1, math.MaxInt} {
		for _, target := range badTargets() {
			for _, r := range append(append(slices.Clone(forms), denied...), good) {
				r.Target = target
				checked(t, r, keys, now, "", api.ErrUri)
				checked(t, r, nil, now, "", api.ErrUri)
			}
		}
		for _, r := range forms {
			checked(t, r, keys, now, "", api.ErrRequest)
			checked(t, r, nil, now, "", api.ErrRequest)
		}
		for _, r := range denied {
			checked(t, r, keys, now, "", api.ErrDenied)
			checked(t, r, nil, now, "", api.ErrDenied)
		}
		checked(t, good, nil, now, "", api.ErrDenied)
		if now < -88 || now > 112 {
			checked(t, good, keys, now, "", api.ErrSkew)
		} else {
			checked(t, good, keys, now, "k", nil)
		}
	}
}

// P18.1: a target that is refused is told also where its signature would be right.
func TestCheckTargets(t *testing.T) {
	keys := one("k", "s")
	for _, target := range badTargets() {
		for _, lines := range []string{target + "\n", "/aaa\n", "\n", "/\n"} {
			s := "BOLLARD1\n12\nGET\n" + lines + "\n" + ofNothing
			r := asking("GET", target, "", "x-date", "12", "authorization", "BOLLARD1 k:"+plainSignature("s", "12", s))
			checked(t, r, keys, 12, "", api.ErrUri)
		}
	}
	for target, lines := range goodTargets() {
		s := "BOLLARD1\n12\nGET\n" + lines + "\n" + ofNothing
		r := asking("GET", target, "", "x-date", "12", "authorization", "BOLLARD1 k:"+plainSignature("s", "12", s))
		checked(t, r, keys, 12, "k", nil)
	}
}

// P18.1: no key, one that isn't there, the same name twice, the right key behind others.
func TestKeys(t *testing.T) {
	r := said("12", "BOLLARD1 k:"+right)
	for _, c := range []struct {
		keys []string
		good bool
	}{
		{nil, false},
		{[]string{"k", "s"}, true},
		{[]string{"k", "t"}, false},
		{[]string{"k", ""}, false},
		{[]string{"k", "S"}, false},
		{[]string{"K", "s"}, false},
		{[]string{"kk", "s"}, false},
		{[]string{"", "s"}, false},
		{[]string{"k ", "s", " k", "s", "k:", "s", "k\x00", "s"}, false},
		{[]string{"k", "s", "k", "s"}, true},
		{[]string{"k", "s", "k", "t"}, true},
		{[]string{"k", "t", "k", "s"}, false},
		{[]string{"k", "t", "k", "s", "k", "s"}, false},
		{[]string{"a", "t", "b", "t", "k", "s", "c", "t"}, true},
		{[]string{"a", "s", "b", "s", "c", "s"}, false},
		{[]string{"a", "s", "k", "t", "b", "s"}, false},
		{[]string{"K", "t", "kk", "t", "", "t", "k", "s"}, true},
		{[]string{"K", "s", "kk", "s", "", "s", "k", "t"}, false},
	} {
		var keys []api.Key
		for i := 0; i < len(c.keys); i += 2 {
			keys = append(keys, api.Key{Name: c.keys[i], Secret: c.keys[i+1]})
		}
		if c.good {
			checked(t, r, keys, 12, "k", nil)
		} else {
			checked(t, r, keys, 12, "", api.ErrDenied)
		}
	}
}

// P18.1: of many keys each signs by its own name.
func TestManyKeys(t *testing.T) {
	var keys []api.Key
	for c := range 256 {
		keys = append(keys, api.Key{Name: string([]byte{byte(c)}), Secret: string([]byte{'s', byte(c)})})
	}
	r := asking("GET", "/aaa", "")
	for c, k := range keys {
		if !isName(c) {
			signs(t, r, k, 12, api.Request{}, api.ErrRequest)
			continue
		}
		out := signed(t, r, k, 12)
		checked(t, out, keys, 12, k.Name, nil)
		others := append(slices.Clone(keys[:c]), keys[c+1:]...)
		checked(t, out, others, 12, "", api.ErrDenied)
		checked(t, out, append(others, k), 12, k.Name, nil)
	}
}

// P18.1, P18.2: now at each distance from a date, and at the least and the greatest number.
func TestSkew(t *testing.T) {
	k := api.Key{Name: "k", Secret: "s"}
	r := asking("GET", "/aaa", "")
	for _, date := range []int{0, 1, 12, 99, 100, 101, 200, 1 << 31, 1<<32 + 5, maxTime - 101, maxTime - 100, maxTime - 99, maxTime - 1, maxTime} {
		out := signed(t, r, k, date)
		for d := -skew; d <= skew; d++ {
			checked(t, out, []api.Key{k}, date+d, "k", nil)
		}
		for _, d := range []int{skew + 1, skew + 2, 2 * skew, 1000, 1 << 31, 1 << 32, 1<<32 + 1, maxTime, 1 << 62} {
			checked(t, out, []api.Key{k}, date+d, "", api.ErrSkew)
			checked(t, out, []api.Key{k}, date-d, "", api.ErrSkew)
		}
		for d := range 250 {
			checked(t, out, []api.Key{k}, math.MinInt+d, "", api.ErrSkew)
			checked(t, out, []api.Key{k}, math.MaxInt-d, "", api.ErrSkew)
		}
	}
}
