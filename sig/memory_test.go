package sig

import (
	"bollard/api"
	"bytes"
	"slices"
	"testing"
	"unsafe"
)

// changing is a text whose bytes change afterwards, as no text of the language does: what was kept of it would change too.
func changing(text string) (string, func()) {
	b := append([]byte(text), 'x')
	return unsafe.String(&b[0], len(text)), func() {
		for i := range b {
			b[i] = '#'
		}
	}
}

// roomy is a request with spare room behind its fields and its body, filled with others, and what changes all of it.
func roomy(r api.Request, behind []api.Field, more []byte) (api.Request, func()) {
	method, first := changing(r.Method)
	target, second := changing(r.Target)
	all := []func(){first, second}
	var list []api.Field
	for _, f := range append(slices.Clone(r.Fields), behind...) {
		name, first := changing(f.Name)
		value, second := changing(f.Value)
		list = append(list, api.Field{Name: name, Value: value})
		all = append(all, first, second)
	}
	body := append(bytes.Clone(r.Body), more...)[:len(r.Body)]
	out := api.Request{Method: method, Target: target, Fields: list[:len(r.Fields)], Body: body}
	return out, func() {
		for _, change := range all {
			change()
		}
		fill(out)
	}
}

// roomyKeys are keys with spare room behind them, filled with others, and what changes all of them.
func roomyKeys(keys, behind []api.Key) ([]api.Key, func()) {
	var all []func()
	var list []api.Key
	for _, k := range append(slices.Clone(keys), behind...) {
		name, first := changing(k.Name)
		secret, second := changing(k.Secret)
		list = append(list, api.Key{Name: name, Secret: secret})
		all = append(all, first, second)
	}
	list = list[:len(keys)]
	return list, func() {
		for _, change := range all {
			change()
		}
		for i := range list[:cap(list)] {
			list[:cap(list)][i] = api.Key{Name: "over", Secret: "over"}
		}
	}
}

// fill puts other things into the request's lists, spare room included.
func fill(r api.Request) {
	for i := range r.Fields[:cap(r.Fields)] {
		r.Fields[:cap(r.Fields)][i] = api.Field{Name: "over", Value: "over"}
	}
	for i := range r.Body[:cap(r.Body)] {
		r.Body[:cap(r.Body)][i] = 7
	}
}

// inside is all that a request holds, spare room included.
func inside(r api.Request) string {
	return text(r.Method) + text(r.Target) + text(r.Fields[:cap(r.Fields)]) + text(r.Body[:cap(r.Body)])
}

// clean asks that nothing is handed out behind the fields and the body.
func clean(t *testing.T, r api.Request) {
	t.Helper()
	for _, f := range r.Fields[len(r.Fields):cap(r.Fields)] {
		holds(t, f == api.Field{}, "something is handed out behind fields:", text(f))
	}
	behind := r.Body[len(r.Body):cap(r.Body)]
	holds(t, bytes.Equal(behind, make([]byte, len(behind))), "something is handed out behind a body")
}

// samples are requests that can be signed, with fields and a body and without.
func samples() []api.Request {
	out := []api.Request{
		{Target: "/"}, {Method: "GET", Target: "/aaa"}, asking("PUT", "/aaa/k?x=1&y", "hello", "host", "x"), asking("PUT", "/a b?b&a", "", "x-date", "1", "authorization", "2"),
		asking("POST", "/%61", allBytes(), "a", "1", "x-date", "12", "b", "2", "authorization", "x", "c", "3"), asking("", "/", "\x00", "", ""),
		{Method: "GET", Target: "/aaa", Fields: []api.Field{}, Body: []byte{}},
	}
	r := source()
	for range 60 {
		out = append(out, drawnGood(r))
	}
	return out
}

// Rule 4: Text and Sign change nothing of what they are handed, read nothing behind it, keep nothing of it, and what Sign answers is shared with nothing.
func TestSignMemory(t *testing.T) {
	for _, sample := range samples() {
		want, _ := plainSign(sample, api.Key{Name: "k-1", Secret: "secret"}, 12)
		wantText, _ := plainText(sample, 12)
		for _, room := range []int{0, 1, 2, 9} {
			r, change := roomy(sample, slices.Repeat(fields("behind", "b", "x-date", "1"), room), bytes.Repeat([]byte{9}, room))
			name, other := changing("k-1")
			secret, third := changing("secret")
			before := inside(r)
			s, fault := Text(r, 12)
			holds(t, s == wantText && fault == nil, "Text of", text(sample), text(s), fault)
			got, err := Sign(r, api.Key{Name: name, Secret: secret}, 12)
			again, wrong := Sign(r, api.Key{Name: name, Secret: secret}, 12)
			holds(t, err == nil && wrong == nil && same(got, want) && same(again, want), "Sign of", text(sample), text(got), text(again), err, wrong)
			holds(t, inside(r) == before && name == "k-1" && secret == "secret", "Text or Sign changes what it is handed:", text(sample))
			clean(t, got)
			change()
			other()
			third()
			holds(t, same(got, want) && s == wantText, "Text or Sign keeps what it is handed:", text(got), text(s))
			fill(got)
			_ = append(got.Fields, fields("behind", "b")...)
			_ = append(got.Body, 1, 2, 3)
			holds(t, same(again, want), "two answers of Sign share memory:", text(again))
			signs(t, sample, api.Key{Name: "k-1", Secret: "secret"}, 12, want, nil)
		}
	}
}

// Rule 4: what is written into Sign's answer, its lists without length included, isn't seen in what was handed in.
func TestSignApart(t *testing.T) {
	for _, sample := range samples() {
		r, _ := roomy(sample, fields("behind", "b", "behind", "c", "behind", "d"), []byte("behind"))
		before := inside(r)
		got, err := Sign(r, api.Key{Name: "k", Secret: "s"}, 12)
		holds(t, err == nil, "Sign of", text(sample), err)
		fill(got)
		_ = append(got.Fields, fields("more", "m")...)
		_ = append(got.Body, "more"...)
		holds(t, inside(r) == before, "Sign's answer is shared with what it was handed:", text(sample), text(r))
	}
}

// Rule 4: requests of which one row of fields is the beginning, and bytes of which a body is, stay as they are.
func TestOneRowOfFields(t *testing.T) {
	all := fields("a", "1", "x-date", "2", "b", "3", "authorization", "4", "c", "5")
	body := []byte("body")
	k := api.Key{Name: "k", Secret: "s"}
	for n := range len(all) + 1 {
		sample := api.Request{Method: "PUT", Target: "/", Fields: slices.Clone(all[:n]), Body: bytes.Clone(body[:min(n, 4)])}
		want, _ := plainSign(sample, k, 12)
		signs(t, api.Request{Method: "PUT", Target: "/", Fields: all[:n], Body: body[:min(n, 4)]}, k, 12, want, nil)
	}
	holds(t, text(all) == text(fields("a", "1", "x-date", "2", "b", "3", "authorization", "4", "c", "5")) && string(body) == "body", "fields or a body are changed:", text(all), text(body))
}

// Rule 4: Check changes nothing of what it is handed, keeps nothing of it, and reads nothing behind it.
func TestCheckMemory(t *testing.T) {
	for _, sample := range samples() {
		signed, _ := plainSign(sample, api.Key{Name: "k-1", Secret: "secret"}, 12)
		for _, room := range []int{0, 1, 9} {
			r, change := roomy(signed, slices.Repeat(fields("x-date", "12", "authorization", "x"), room), bytes.Repeat([]byte{9}, room))
			keys, other := roomyKeys([]api.Key{{Name: "a", Secret: "t"}, {Name: "k-1", Secret: "secret"}}, slices.Repeat(one("k-1", "t"), room))
			before, held := inside(r), text(keys[:cap(keys)])
			name, err := Check(r, keys, 12)
			holds(t, name == "k-1" && err == nil, "Check of", text(signed), text(name), err)
			holds(t, inside(r) == before && text(keys[:cap(keys)]) == held, "Check changes what it is handed:", text(sample))
			change()
			other()
			holds(t, name == "k-1", "Check keeps what it is handed:", text(name))
		}
	}
}

// Rule 4: what Check refuses it doesn't change either, and neither keys, fields nor a body's bytes that lie behind make it good or another error.
func TestCheckBehind(t *testing.T) {
	good := said("12", "BOLLARD1 k:"+right)
	list := fields("x-date", "12", "authorization", "BOLLARD1 k:"+right)
	for _, c := range []struct {
		keys, behind []api.Key
		fields, more []api.Field
		body         string
		target       string
		want         error
	}{
		{nil, one("k", "s"), list, nil, "", "/aaa", api.ErrDenied},
		{one("a", "s"), one("k", "s"), list, nil, "", "/aaa", api.ErrDenied},
		{one("k", "t"), one("k", "s"), list, nil, "", "/aaa", api.ErrDenied},
		{one("k", "s"), nil, list[:1], list[1:], "", "/aaa", api.ErrRequest},
		{one("k", "s"), nil, nil, list, "", "/aaa", api.ErrRequest},
		{one("k", "s"), nil, list[1:], list[:1], "", "/aaa", api.ErrRequest},
		{one("k", "s"), nil, list, nil, "a", "/aaa", api.ErrDenied},
		{one("k", "s"), one("k", "s"), list, list, "", "aaa", api.ErrUri},
		{one("k", "s"), one("k", "s"), list, list, "", "", api.ErrUri},
	} {
		sample := good
		sample.Fields, sample.Body, sample.Target = c.fields, []byte(c.body), c.target
		r, _ := roomy(sample, c.more, []byte("behind"))
		keys, _ := roomyKeys(c.keys, c.behind)
		before, held := inside(r), text(keys[:cap(keys)])
		name, err := Check(r, keys, 12)
		holds(t, name == "" && err == c.want, "Check of", text(sample), text(name), err)
		holds(t, inside(r) == before && text(keys[:cap(keys)]) == held, "Check changes what it is handed:", text(sample))
	}
}

// Rule 4: bytes behind a text's end aren't read: neither of a target, a name, a secret, nor of what the fields say.
func TestTextsBehind(t *testing.T) {
	cut := func(whole string, n int) string {
		b := []byte(whole + "x")
		return unsafe.String(&b[0], n)
	}
	claim := "BOLLARD1 k:" + right
	for n := range len(claim) {
		checked(t, said("12", cut(claim, n)), one("k", "s"), 12, "", api.ErrRequest)
	}
	checked(t, said(cut("123", 2), cut(claim+"0", len(claim))), one(cut("kk", 1), cut("ss", 1)), 12, "k", nil)
	checked(t, said(cut("12", 1), claim), one("k", "s"), 12, "", api.ErrDenied)
	checked(t, said(cut("12", 0), claim), one("k", "s"), 12, "", api.ErrRequest)
	r := said("12", claim)
	r.Target, r.Method = cut("/aaa%41", 4), cut("GETS", 3)
	checked(t, r, one("k", "s"), 12, "k", nil)
	r.Target = cut("/aaa", 0)
	checked(t, r, one("k", "s"), 12, "", api.ErrUri)
	signs(t, asking("GET", "/aaa", ""), api.Key{Name: cut("k", 0), Secret: "s"}, 12, api.Request{}, api.ErrRequest)
	signs(t, asking("GET", "/aaa", ""), api.Key{Name: cut("k_", 1), Secret: "s"}, 12, said("12", claim), nil)
}

// Rule 2, rule 4: beside an error stands the zero value, and what was handed in is as it was.
func TestRefusedMemory(t *testing.T) {
	for _, sample := range []api.Request{asking("GET", "aaa", "b", "host", "x", "x-date", "1"), asking("GET", "/%", "b", "authorization", "x"), asking("GET", "/aaa", "b", "x-date", "1", "host", "x")} {
		for _, key := range append(one("", "s"), one("k k", "s")...) {
			for _, date := range []int{-1, 12, maxTime + 1} {
				r, _ := roomy(sample, fields("behind", "b"), []byte("behind"))
				before := inside(r)
				got, err := Sign(r, key, date)
				holds(t, err != nil && same(got, api.Request{}) && inside(r) == before, "Sign of", text(sample), text(got), err)
				clean(t, got)
				s, fault := Text(r, -1)
				holds(t, fault != nil && s == "" && inside(r) == before, "Text of", text(sample), text(s), fault)
			}
		}
	}
}

// Rule 8: what a call answers hangs on nothing that was called ahead, refused or not.
func TestCallsApart(t *testing.T) {
	all := samples()[:30]
	k := api.Key{Name: "k", Secret: "s"}
	for _, sample := range all {
		out, err := plainSign(sample, k, 12)
		holds(t, err == nil, "the other implementation of Sign of", text(sample), err)
		for i, other := range all {
			_, _ = Text(other, i)
			_, _ = Sign(other, api.Key{Name: "other", Secret: "t"}, i)
			_, _ = Sign(other, api.Key{}, -1)
			_, _ = Check(other, []api.Key{k}, i)
			_, _ = Check(out, nil, i)
			signs(t, sample, k, 12, out, nil)
			checked(t, out, []api.Key{k}, 12, "k", nil)
		}
	}
}

// Rule 8: a request that was taken is taken again, as often as it comes: nothing is kept of it.
func TestAgain(t *testing.T) {
	keys := one("k", "s")
	for range 300 {
		checked(t, said("12", "BOLLARD1 k:"+right), keys, 12, "k", nil)
		checked(t, said("12", "BOLLARD1 k:"+wrong), keys, 12, "", api.ErrDenied)
		checked(t, said("12", "BOLLARD1 k:"+right), keys, 113, "", api.ErrSkew)
	}
}

// Rule 8: calls side by side answer what they answer alone.
func TestSideBySide(t *testing.T) {
	k := api.Key{Name: "k", Secret: "s"}
	r := asking("GET", "/aaa", "")
	want := said("12", "BOLLARD1 k:"+right)
	results := make(chan string)
	for range 8 {
		go func() {
			out := ""
			for range 100 {
				got, err := Sign(r, k, 12)
				name, fault := Check(want, []api.Key{k}, 12)
				if !same(got, want) || err != nil || name != "k" || fault != nil {
					out = "Sign or Check"
				}
				if s, err := Text(r, 12); s != "BOLLARD1\n12\nGET\n/aaa\n\n"+ofNothing || err != nil {
					out = "Text"
				}
			}
			results <- out
		}()
	}
	for range 8 {
		out := <-results
		holds(t, out == "", "calls side by side:", out)
	}
}
