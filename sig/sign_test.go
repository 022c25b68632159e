package sig

import (
	"bollard/api"
	"math"
	"slices"
	"strconv"
	"strings"
	"testing"
)

// P18.1: signatures that were worked out apart from the program.
func TestSign(t *testing.T) {
	for _, c := range []struct {
		secret, method, target, body string
		date                         int
		code                         string
	}{
		{"s", "GET", "/aaa", "", 12, "a0f306bee178bbd602aac62027f0130a74f298f8e24c5329f10f9d1ae95d7161"},
		{"s", "GET", "/aaa", "\x01", 12, "79f5b57597d69d8d7426aae7e53be223e0f06969c196ce5ab99bc05138de02ec"},
		{"s", "PUT", "/aaa/k", "hello", 0, "6bbd94c7c129ea3946ae8c3e04942a95adc880470336550e9c59b7328e8f1ecc"},
		{"", "", "/", "", 1, "ae25095d4cca37e5fa33eb47152509371e4fa62f36f21a1fe87b11c6017f6a5c"},
		{"secret of any bytes \x00\xff\n", "POST", "/a%20b?x=1&y&x=0", allBytes(), maxTime, "969c09825fa00d9ee32aba2990255d7f474b5ea58df16e51e768ea8ac48ebf52"},
		{strings.Repeat("t", 100), "DELETE", "/aaa/a/b?upload=0-0-1", "\x01", 300, "ab7c7b4a7e8b3cb0bc1e057539974aecba9ab628eb7dd7b434d80f3f2714c309"},
	} {
		for _, name := range []string{"k", "A-1", "-"} {
			r := asking(c.method, c.target, c.body, "host", "x")
			want := with(r, "host", "x", "x-date", strconv.Itoa(c.date), "authorization", "BOLLARD1 "+name+":"+c.code)
			signs(t, r, api.Key{Name: name, Secret: c.secret}, c.date, want, nil)
			checked(t, want, one(name, c.secret), c.date, name, nil)
		}
	}
}

// P18.1: dates at and beyond the ends.
func TestSignDates(t *testing.T) {
	r, k := asking("GET", "/aaa", "b", "host", "x"), api.Key{Name: "k", Secret: "s"}
	for date, good := range farDates() {
		if !good {
			signs(t, r, k, date, api.Request{}, api.ErrRequest)
			continue
		}
		out := signed(t, r, k, date)
		holds(t, value(t, out, "x-date") == strconv.Itoa(date), "x-date:", text(out))
		checked(t, out, []api.Key{k}, date, "k", nil)
	}
}

// P18.1: a key's name is of letters, digits and "-", at each place.
func TestSignNames(t *testing.T) {
	r := asking("GET", "/aaa", "")
	var names, wrong []string
	for c := range 256 {
		b := string([]byte{byte(c)})
		for _, name := range []string{b, b + b, b + "k", "k" + b, "k" + b + "k", b + strings.Repeat("k", 300), strings.Repeat("k", 300) + b} {
			if isName(c) {
				names = append(names, name)
			} else {
				wrong = append(wrong, name)
			}
		}
	}
	names = append(names, "-", "--", "0", "A-z-9", strings.Repeat("n", 5000))
	wrong = append(wrong, "", " ", "k:", ":k", "k k", "k\n", "\u00e4", "\u017f", "\u212a", "\u0660", "k_", "k.k", "\uff21", strings.Repeat("n", 5000)+"_")
	for _, name := range names {
		out := signed(t, r, api.Key{Name: name, Secret: "s"}, 12)
		holds(t, value(t, out, "authorization") == "BOLLARD1 "+name+":a0f306bee178bbd602aac62027f0130a74f298f8e24c5329f10f9d1ae95d7161", "authorization:", text(out))
		checked(t, out, one(name, "s"), 12, name, nil)
	}
	for _, name := range wrong {
		signs(t, r, api.Key{Name: name, Secret: "s"}, 12, api.Request{}, api.ErrRequest)
		checked(t, with(r, "x-date", "12", "authorization", "BOLLARD1 "+name+":a0f306bee178bbd602aac62027f0130a74f298f8e24c5329f10f9d1ae95d7161"), one(name, "s"), 12, "", api.ErrRequest)
	}
}

// P18.1: a wrong target is told ahead of a wrong date and a wrong name.
func TestSignErrors(t *testing.T) {
	for _, target := range append(badTargets(), "/", "/aaa?x") {
		_, _, good := plainCanonical(target)
		for _, date := range []int{math.MinInt, -1, 0, maxTime, maxTime + 1, math.MaxInt} {
			for _, name := range []string{"", "a b", "k"} {
				r := asking("GET", target, "b", "host", "x", "x-date", "12", "authorization", "x")
				key := api.Key{Name: name, Secret: "s"}
				switch {
				case !good:
					signs(t, r, key, date, api.Request{}, api.ErrUri)
				case date < 0 || date > maxTime || name != "k":
					signs(t, r, key, date, api.Request{}, api.ErrRequest)
				default:
					signed(t, r, key, date)
				}
			}
		}
	}
}

// secrets are some of all kinds, no two the same, nor the same but for noughts behind them.
func secrets() []string {
	out := []string{"", "s", "S", "t", "ss", "s ", "s\n", "\x00s", "\x00\x00s", "BOLLARD", "s3", "12", "\u00e4", "\xff", allBytes(), strings.Repeat("s", 56), strings.Repeat("s", 57), strings.Repeat("s", 58), strings.Repeat("s", 64), strings.Repeat("s", 65), strings.Repeat("s", 10000)}
	for c := range 256 {
		out = append(out, "a"+string([]byte{byte(c)}))
	}
	return out
}

// P18.1, P18.3: secrets of any bytes sign, each in its own way.
func TestSignSecrets(t *testing.T) {
	r := asking("PUT", "/aaa/k", "hello")
	seen := map[string]string{}
	for _, secret := range secrets() {
		out := signed(t, r, api.Key{Name: "k", Secret: secret}, 12)
		other, there := seen[code(t, out)]
		holds(t, !there, "two secrets give one signature:", text(secret), text(other))
		seen[code(t, out)] = secret
		checked(t, out, one("k", secret), 12, "k", nil)
		checked(t, out, one("k", secret+"x"), 12, "", api.ErrDenied)
	}
}

// P18.1: layer 4 fills a short key up with noughts, so a short secret signs as it does with noughts behind it; a long one doesn't.
func TestSignNoughts(t *testing.T) {
	r := asking("PUT", "/aaa/k", "hello")
	for _, c := range []struct {
		n    int
		more string
		same bool
	}{{0, "\x00", true}, {1, "\x00", true}, {1, "\x00\x00", true}, {56, "\x00", true}, {57, "\x00", false}, {56, "\x00\x00", false}, {58, "\x00", false}} {
		secret := strings.Repeat("s", c.n)
		out := signed(t, r, api.Key{Name: "k", Secret: secret}, 12)
		more := signed(t, r, api.Key{Name: "k", Secret: secret + c.more}, 12)
		holds(t, same(out, more) == c.same, "secrets of", c.n, "bytes with noughts behind:", text(out), text(more))
	}
}

// P18.1: a key's name isn't in what is signed; a date is, and is in the key too.
func TestSignDiffers(t *testing.T) {
	r := asking("PUT", "/aaa/k", "hello")
	first := code(t, signed(t, r, api.Key{Name: "k", Secret: "s"}, 12))
	holds(t, code(t, signed(t, r, api.Key{Name: "other", Secret: "s"}, 12)) == first, "signatures of two names")
	holds(t, code(t, signed(t, r, api.Key{Name: "k", Secret: "s"}, 13)) != first, "signatures of two dates")
}

// P18.1: the fields that signed ahead go, wherever they stand and however many there are; the others stay in their order.
func TestSignFields(t *testing.T) {
	k := api.Key{Name: "k", Secret: "s"}
	for _, c := range []struct{ ahead, left []string }{
		{nil, nil},
		{[]string{"host", "x"}, []string{"host", "x"}},
		{[]string{"b", "2", "a", "1", "b", "2", "", ""}, []string{"b", "2", "a", "1", "b", "2", "", ""}},
		{[]string{"x-date", "1"}, nil},
		{[]string{"authorization", "1"}, nil},
		{[]string{"authorization", "1", "x-date", "2"}, nil},
		{[]string{"x-date", "12", "x-date", "12", "x-date", "12"}, nil},
		{[]string{"authorization", "", "authorization", "", "authorization", ""}, nil},
		{[]string{"x-date", "1", "a", "1"}, []string{"a", "1"}},
		{[]string{"a", "1", "x-date", "1"}, []string{"a", "1"}},
		{[]string{"a", "1", "x-date", "1", "b", "2"}, []string{"a", "1", "b", "2"}},
		{[]string{"a", "1", "authorization", "1", "b", "2", "x-date", "1", "c", "3"}, []string{"a", "1", "b", "2", "c", "3"}},
		{[]string{"x-date", "1", "a", "1", "x-date", "2", "b", "2", "authorization", "3", "authorization", "4"}, []string{"a", "1", "b", "2"}},
		{[]string{"X-Date", "1", "X-DATE", "2", "Authorization", "3", "AUTHORIZATION", "4"}, []string{"X-Date", "1", "X-DATE", "2", "Authorization", "3", "AUTHORIZATION", "4"}},
		{[]string{"x-dat", "1", "x-dates", "2", "-date", "3", "x_date", "4", "x-date ", "5", " x-date", "6", "x-\u0434ate", "7"}, []string{"x-dat", "1", "x-dates", "2", "-date", "3", "x_date", "4", "x-date ", "5", " x-date", "6", "x-\u0434ate", "7"}},
		{[]string{"authorizatio", "1", "authorizations", "2", "uthorization", "3", "date", "4", "x", "5"}, []string{"authorizatio", "1", "authorizations", "2", "uthorization", "3", "date", "4", "x", "5"}},
		{[]string{"a", "x-date", "b", "authorization"}, []string{"a", "x-date", "b", "authorization"}},
	} {
		left := append(slices.Clone(c.left), "x-date", "12", "authorization", "BOLLARD1 k:a0f306bee178bbd602aac62027f0130a74f298f8e24c5329f10f9d1ae95d7161")
		r := asking("GET", "/aaa", "", c.ahead...)
		signs(t, r, k, 12, with(r, left...), nil)
		checked(t, with(r, left...), []api.Key{k}, 12, "k", nil)
	}
	var many, rest []string
	for i := range 200 {
		many = append(many, "a", strconv.Itoa(i), "x-date", "0", "authorization", "")
		rest = append(rest, "a", strconv.Itoa(i))
	}
	r := asking("GET", "/aaa", "", many...)
	signs(t, r, k, 12, with(r, append(rest, "x-date", "12", "authorization", "BOLLARD1 k:a0f306bee178bbd602aac62027f0130a74f298f8e24c5329f10f9d1ae95d7161")...), nil)
}

// P18.1: the method, the target and the body are answered as they are, also where they could be written otherwise.
func TestSignKeeps(t *testing.T) {
	k := api.Key{Name: "k", Secret: "s"}
	for target := range goodTargets() {
		for _, method := range []string{"", "GET", "get\n", allBytes()} {
			for _, body := range []string{"", "a", allBytes(), strings.Repeat("b", 3000)} {
				r := asking(method, target, body, "host", "x")
				out := signed(t, r, k, 77)
				holds(t, out.Method == method && out.Target == target && string(out.Body) == body && len(out.Fields) == 3, "Sign of", text(r), text(out))
				checked(t, out, []api.Key{k}, 77, "k", nil)
			}
		}
	}
}

// P18.1: Sign of what Sign gave, with the same key and with another one, is Sign of what was there ahead.
func TestSignTwice(t *testing.T) {
	k, other := api.Key{Name: "k", Secret: "s"}, api.Key{Name: "other", Secret: "t"}
	for target := range goodTargets() {
		r := asking("GET", target, "b", "host", "x", "a", "1")
		first := signed(t, r, k, 12)
		signs(t, first, k, 12, first, nil)
		signs(t, first, other, 12, signed(t, r, other, 12), nil)
		signs(t, first, k, 13, signed(t, r, k, 13), nil)
		signs(t, signed(t, first, other, 500), k, 12, first, nil)
		checked(t, signed(t, first, other, 500), []api.Key{k, other}, 500, "other", nil)
		checked(t, signed(t, first, other, 500), []api.Key{k}, 12, "", api.ErrDenied)
	}
}
