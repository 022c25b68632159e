package sig

import (
	"bollard/api"
	"bytes"
	"strings"
	"testing"
)

// hexDigits are those of Hex.
const hexDigits = "0123456789abcdef"

// P18.3: each digit of the signature, changed to each other one.
func TestChangedDigits(t *testing.T) {
	k := api.Key{Name: "k", Secret: "s"}
	for _, r := range []api.Request{asking("GET", "/aaa", ""), asking("PUT", "/aaa/k?x=1", "hello", "host", "x")} {
		out := signed(t, r, k, 12)
		whole := code(t, out)
		for i := range len(whole) {
			for j := range len(hexDigits) {
				other := whole[:i] + hexDigits[j:j+1] + whole[i+1:]
				changed := with(out, "x-date", "12", "authorization", "BOLLARD1 k:"+other)
				if other == whole {
					checked(t, changed, []api.Key{k}, 12, "k", nil)
				} else {
					checked(t, changed, []api.Key{k}, 12, "", api.ErrDenied)
				}
			}
		}
		for _, other := range []string{strings.Repeat("0", 64), strings.Repeat("f", 64), whole[32:] + whole[:32], whole[1:] + whole[:1], whole[:32] + strings.Repeat("0", 32), strings.Repeat("0", 32) + whole[32:], ofNothing} {
			checked(t, with(out, "x-date", "12", "authorization", "BOLLARD1 k:"+other), []api.Key{k}, 12, "", api.ErrDenied)
		}
	}
}

// P18.3: a request whose method, target or body is another one behind Sign is denied.
func TestChangedRequests(t *testing.T) {
	k := api.Key{Name: "k", Secret: "s"}
	out := signed(t, asking("PUT", "/aaa/k?x=1&y=2", "hello", "host", "x"), k, 12)
	checked(t, out, []api.Key{k}, 12, "k", nil)
	for _, method := range []string{"", "GET", "put", "Put", "PUT ", " PUT", "PUTT", "PU", "POST", "PUT\n", "PUT\n/aaa/k", "PUT\x00"} {
		changed := out
		changed.Method = method
		checked(t, changed, []api.Key{k}, 12, "", api.ErrDenied)
	}
	for _, target := range []string{"/", "/aaa", "/aaa/k", "/aaa/k?x=1", "/aaa/k?x=1&y=3", "/aaa/k?x=2&y=1", "/aaa/k?x=1&y=2&z=3", "/aaa/k?x=1&y=2&x=1", "/aaa/k?x=1&y=2&=", "/aaa/K?x=1&y=2", "/aaa/k/?x=1&y=2", "//aaa/k?x=1&y=2", "/aaa%2Fk%3Fx=1&y=2", "/aaa/k?x=1%26y=2", "/aaa/k?X=1&y=2", "/aaa/k?x=1&y=2%20", "/aaa/k?x&1&y=2", "/aaa/k?x=1=y=2", "/aaa/k?x==1&y=2", "/aaa/k+?x=1&y=2", "/aaa/k%0A"} {
		changed := out
		changed.Target = target
		want := api.ErrDenied
		if strings.Contains(target, "%0A") {
			want = api.ErrUri
		}
		checked(t, changed, []api.Key{k}, 12, "", want)
	}
	for _, body := range []string{"", "hell", "hello ", " hello", "Hello", "hellp", "hello\x00", "hello\n", "olleh", "hellohello", allBytes()} {
		changed := out
		changed.Body = []byte(body)
		checked(t, changed, []api.Key{k}, 12, "", api.ErrDenied)
	}
}

// P18.3: a bit turned anywhere in the method, the target, the date or the body is never taken.
func TestTurnedBits(t *testing.T) {
	k := api.Key{Name: "k", Secret: "s"}
	out := signed(t, asking("PUT", "/aaa/k?x=1&y=2", "hello", "host", "x"), k, 120)
	for bit := range 8 {
		flip := func(s string, i int) string {
			b := []byte(s)
			b[i] ^= 1 << bit
			return string(b)
		}
		for i := range out.Method {
			changed := out
			changed.Method = flip(out.Method, i)
			checked(t, changed, []api.Key{k}, 120, "", api.ErrDenied)
		}
		for i := range out.Body {
			changed := out
			changed.Body = []byte(flip(string(out.Body), i))
			checked(t, changed, []api.Key{k}, 120, "", api.ErrDenied)
		}
		for i := range out.Target {
			changed := out
			changed.Target = flip(out.Target, i)
			want := api.ErrDenied
			if _, _, ok := plainCanonical(changed.Target); !ok {
				want = api.ErrUri
			}
			checked(t, changed, []api.Key{k}, 120, "", want)
		}
		for i := range "120" {
			date := flip("120", i)
			want := api.ErrDenied
			if !plainDate.MatchString(date) {
				want = api.ErrRequest
			}
			checked(t, with(out, "x-date", date, "authorization", value(t, out, "authorization")), []api.Key{k}, 120, "", want)
		}
	}
}

// P18.1, P18.2: a target that is written otherwise and means the same is taken still, and its pairs in another order too.
func TestOtherwise(t *testing.T) {
	k := api.Key{Name: "k", Secret: "s"}
	same := [][]string{
		{"/aaa/k?x=1&y=2", "/aaa/k?y=2&x=1", "/%61aa/k?x=1&y=2", "/aaa%2Fk?x=1&y=2", "/aaa%2fk?%78=%31&y=2", "/aaa/k?&x=1&&y=2&", "/aaa/k?y=%32&&&x=1"},
		{"/a%20b?x", "/a b?x", "/a b?x=", "/%61%20%62?%78=", "/a%20b?x&", "/a b?&x"},
		{"/", "/?", "/?&", "/?&&&"},
		{"/~-_.?~-_.=~-_.", "/%7E%2d%5F%2e?%7e%2D%5f%2E=%7e%2D%5f%2E"},
		{"/p?a&a=1&a=0&b", "/p?b&a=1&a=0&a", "/p?a=0&a=&a=1&b=", "/p?a=1&b&a&a=0"},
		{"/?==", "/?=%3D", "/?=%3d"},
		{"/??", "/?%3F", "/?%3f="},
		{"/K?A=B", "/%4B?%41=%42", "/K?&A=B"},
		{"/k?a=b", "/%6b?%61=%62"},
		{"/k?A=b", "/k?%41=b&"},
	}
	for i, row := range same {
		for _, target := range row {
			out := signed(t, asking("GET", target, "b"), k, 12)
			for j, others := range same {
				for _, other := range others {
					changed := out
					changed.Target = other
					if i == j {
						checked(t, changed, []api.Key{k}, 12, "k", nil)
					} else {
						checked(t, changed, []api.Key{k}, 12, "", api.ErrDenied)
					}
				}
			}
		}
	}
}

// P18.3: a date behind Sign is another one: denied, near or far.
func TestChangedDates(t *testing.T) {
	k := api.Key{Name: "k", Secret: "s"}
	out := signed(t, asking("GET", "/aaa", ""), k, 500)
	for _, date := range []string{"499", "501", "50", "5000", "5", "0", "400", "600", "399", "601", "1099511627776"} {
		for _, now := range []int{0, 500, 600, 601, maxTime} {
			checked(t, with(out, "x-date", date, "authorization", value(t, out, "authorization")), []api.Key{k}, now, "", api.ErrDenied)
		}
	}
}

// P18.1: fields that don't sign may be others behind Sign.
func TestChangedFields(t *testing.T) {
	k := api.Key{Name: "k", Secret: "s"}
	out := signed(t, asking("GET", "/aaa", "", "host", "x", "range", "bytes=0-1"), k, 12)
	date, claim := value(t, out, "x-date"), value(t, out, "authorization")
	for _, all := range [][]string{nil, {"host", "y"}, {"range", "bytes=1-"}, {"host", "x", "host", "x"}, {"", ""}, {"X-Date", "0"}} {
		checked(t, with(out, append([]string{"x-date", date, "authorization", claim}, all...)...), []api.Key{k}, 12, "k", nil)
		checked(t, with(out, append(append([]string{}, all...), "authorization", claim, "x-date", date)...), []api.Key{k}, 12, "k", nil)
	}
}

// P18.3: a signature made in another way than the chapter's is denied: of other lines, under another key, or by another digest.
func TestOtherWays(t *testing.T) {
	keys := one("k", "s")
	s := "BOLLARD1\n12\nGET\n/aaa\n\n" + ofNothing
	ways := []string{
		plainSignature("s", "12", s+"\n"), plainSignature("s", "12", strings.ReplaceAll(s, "\n", "\r\n")), plainSignature("s", "12", strings.ReplaceAll(s, "\n\n", "\n")), plainSignature("s", "12", strings.ReplaceAll(s, "\n", "")),
		plainSignature("s", "12", strings.Replace(s, "BOLLARD1", "BOLLARD", 1)), plainSignature("s", "12", strings.TrimPrefix(s, "BOLLARD1\n")), plainSignature("s", "12", strings.ToUpper(s)), plainSignature("s", "12", strings.Replace(s, "GET", "get", 1)),
		plainSignature("s", "12", "BOLLARD1\n12\nGET\n/aaa\n\n"), plainSignature("s", "12", "BOLLARD1\n12\nGET\n/aaa\n"+ofNothing), plainSignature("s", "12", "BOLLARD1\nGET\n12\n/aaa\n\n"+ofNothing), plainSignature("s", "12", "BOLLARD1\n12\nGET\n/aaa\n\nk\n"+ofNothing), plainSignature("s", "12", ""),
		plainSignature("t", "12", s), plainSignature("s", "13", s), plainSignature("", "12", s), plainSignature("s", "", s), plainSignature("s", "012", s), plainSignature("k", "12", s),
	}
	for _, other := range ways {
		holds(t, other != right, "another way gives the right signature")
		checked(t, said("12", "BOLLARD1 k:"+other), keys, 12, "", api.ErrDenied)
	}
	for _, key := range [][]byte{[]byte("s"), []byte("BOLLARDs"), plainStep([]byte("BOLLARDs"), "12"), plainStep([]byte("BOLLARDs"), "s3"), plainStep(plainStep([]byte("BOLLARDs"), "s3"), "12"), plainStep(plainStep([]byte("s"), "12"), "s3"), plainStep(plainStep(plainStep([]byte("BOLLARDs"), "12"), "s3"), ""), bytes.Repeat([]byte{0}, 32)} {
		out := said("12", "BOLLARD1 k:"+text16(plainStep(key, s)))
		checked(t, out, keys, 12, "", api.ErrDenied)
	}
}

// text16 are bytes as digits, two a byte.
func text16(b []byte) string {
	var out strings.Builder
	for _, c := range b {
		out.WriteByte(hexDigits[c/16])
		out.WriteByte(hexDigits[c%16])
	}
	return out.String()
}
