package sig

import (
	"bollard/api"
	"strconv"
	"strings"
	"testing"
)

// dated is GET /aaa with a text as x-date and a signature that is right for just this text.
func dated(date string) api.Request {
	s := "BOLLARD1\n" + date + "\nGET\n/aaa\n\n" + ofNothing
	return said(date, "BOLLARD1 k:"+plainSignature("s", date, s))
}

// P18.1: which texts are dates.
func TestDates(t *testing.T) {
	keys := one("k", "s")
	for _, date := range []int{0, 1, 9, 10, 12, 90, 99, 100, 109, 1000000, 1 << 32, 1<<31 - 1, 999999999999, 1000000000000, 1099511627775, maxTime} {
		checked(t, dated(strconv.Itoa(date)), keys, date, "k", nil)
		checked(t, dated(strconv.Itoa(date)), keys, date+skew+1, "", api.ErrSkew)
	}
	for _, date := range []string{
		"", " ", "00", "000", "01", "012", "0012", "00000000000000000012", "+12", "-12", "-0", "+0", "+", "-", "--12", "-1", "-99", " 12", "12 ", "\t12", "12\t", "12\n", "\n12", "1 2", "12\x00", "\x0012",
		"1099511627777", "1099511627780", "1199511627776", "2099511627776", "9999999999999", "10995116277760", "10000000000000", "99999999999999", "9223372036854775807", "9223372036854775808", "18446744073709551616", "18446744073709551628", "340282366920938463463374607431768211468",
		strings.Repeat("1", 100), strings.Repeat("0", 100), "1" + strings.Repeat("0", 5000), "0x12", "0xc", "0b1", "0o7", "1_2", "1_000", "1e1", "12.0", "12.", ".12", "1,000", "12a", "a12", "a", "twelve", "\u0661\u0662", "\uff11\uff12", "\u00b9", "12\u00a0", "NaN", "inf", "nil", "12, 12", "12;", "\"12\"",
	} {
		for _, now := range []int{0, 12, -12, -1, maxTime} {
			checked(t, dated(date), keys, now, "", api.ErrRequest)
		}
		checked(t, said(date, "BOLLARD1 k:"+right), keys, 12, "", api.ErrRequest)
	}
}

// P18.1: each byte alone, ahead of, in and behind a date.
func TestDateBytes(t *testing.T) {
	keys := one("k", "s")
	for c := range 256 {
		b := string([]byte{byte(c)})
		digit := c >= 48 && c <= 57
		near := func(s string) int {
			n, _ := strconv.Atoi(s)
			return n
		}
		for _, date := range []string{b, "1" + b, "1" + b + "2", "12" + b, "7" + b + b} {
			judged(t, dated(date), keys, near(date), digit, "k")
		}
		judged(t, dated(b+"12"), keys, near(b+"12"), digit && c != 48, "k")
		judged(t, dated(b+b), keys, near(b+b), digit && c != 48, "k")
	}
}

// P18.1: which texts are of the form of an authorization.
func TestClaims(t *testing.T) {
	keys := one("k", "s")
	checked(t, said("12", "BOLLARD1 k:"+right), keys, 12, "k", nil)
	great := strings.ToUpper(right)
	for _, claim := range []string{
		"", " ", ":", "BOLLARD1", "BOLLARD1 ", "BOLLARD1 k", "BOLLARD1 k:", "BOLLARD1 :", "BOLLARD1 :" + right, "BOLLARD1  :" + right, "BOLLARD1:" + right, right, ":" + right, "k:" + right, " k:" + right,
		"BOLLARD2 k:" + right, "BOLLARD k:" + right, "BOLLARD12 k:" + right, "OLLARD1 k:" + right, "BBOLLARD1 k:" + right, "bollard1 k:" + right, "Bollard1 k:" + right, "BOLLARd1 k:" + right, "AWS k:" + right, "Basic k:" + right, "BOLLARD3 k:" + right, "BOLLARD1\u00a0k:" + right,
		"BOLLARD1k:" + right, "BOLLARD1  k:" + right, "BOLLARD1\tk:" + right, "BOLLARD1\nk:" + right, " BOLLARD1 k:" + right, "\tBOLLARD1 k:" + right, "BOLLARD1 k :" + right, "BOLLARD1 k: " + right, "BOLLARD1 k:" + right + " ", "BOLLARD1 k:" + right + "\t", "BOLLARD1 k:" + right + "\n", "BOLLARD1 BOLLARD1 k:" + right, "BOLLARD1_k:" + right, "BOLLARD1:k:" + right,
		"BOLLARD1 k" + right, "BOLLARD1 k::" + right, "BOLLARD1 k:k:" + right, "BOLLARD1 :k:" + right, "BOLLARD1 k:" + right + ":", "BOLLARD1 k:" + right + ":" + right, "BOLLARD1 k:" + right[:32] + ":" + right[32:], "BOLLARD1 k;" + right, "BOLLARD1 k=" + right, "BOLLARD1 k " + right, "BOLLARD1 " + right + ":k",
		"BOLLARD1 k:" + right[:63], "BOLLARD1 k:" + right[1:], "BOLLARD1 k:" + right + "0", "BOLLARD1 k:0" + right, "BOLLARD1 k:" + right[:62], "BOLLARD1 k:" + right + "00", "BOLLARD1 k:" + right[:32], "BOLLARD1 k:" + right + right, "BOLLARD1 k:" + right[:2], "BOLLARD1 k:" + strings.Repeat("0", 63), "BOLLARD1 k:" + strings.Repeat("0", 65), "BOLLARD1 k:" + strings.Repeat("0", 66), "BOLLARD1 k:" + strings.Repeat("0", 5000),
		"BOLLARD1 k:" + great, "BOLLARD1 k:A" + right[1:], "BOLLARD1 k:" + right[:2] + "F" + right[3:], "BOLLARD1 k:g" + right[1:], "BOLLARD1 k:" + right[:63] + "g", "BOLLARD1 k:" + right[:63] + "G", "BOLLARD1 k:0x" + right[2:], "BOLLARD1 k:" + strings.Repeat("z", 64), "BOLLARD1 k:" + strings.Repeat(" ", 64), "BOLLARD1 k:" + strings.Repeat("\u00e4", 32), "BOLLARD1 k:" + strings.Repeat("\uff10", 64), "BOLLARD1 k:+" + right[1:], "BOLLARD1 k:-" + right[1:],
		"BOLLARD1 k k:" + right, "BOLLARD1 k_:" + right, "BOLLARD1 \u00e4:" + right, "BOLLARD1 k.k:" + right, "BOLLARD1 \"k\":" + right, "BOLLARD1 k,k:" + right, "BOLLARD1 \x00:" + right, "BOLLARD1 k\x00:" + right, "BOLLARD1 k\n:" + right, "BOLLARD1 \u212a:" + right,
	} {
		for _, all := range [][]api.Key{keys, nil, one("", "s"), append(one("k ", "s"), one(" k", "s")...)} {
			checked(t, said("12", claim), all, 12, "", api.ErrRequest)
		}
	}
}

// P18.1: each byte at each place of an authorization.
func TestClaimBytes(t *testing.T) {
	whole := "BOLLARD1 key:" + right
	keys := one("key", "s")
	for i := range len(whole) {
		for c := range 256 {
			r := said("12", whole[:i]+string([]byte{byte(c)})+whole[i+1:])
			switch {
			case whole[i] == byte(c):
				checked(t, r, keys, 12, "key", nil)
			case i >= 9 && i < 12 && isName(c), i >= 13 && (c >= 48 && c <= 57 || c >= 97 && c <= 102):
				checked(t, r, keys, 12, "", api.ErrDenied)
			default:
				checked(t, r, keys, 12, "", api.ErrRequest)
			}
		}
	}
}

// P18.1: an authorization with one byte left out, or one put in, isn't of the form but where the name is.
func TestClaimLengths(t *testing.T) {
	whole := "BOLLARD1 key:" + right
	keys := one("key", "s")
	for i := range len(whole) {
		r := said("12", whole[:i]+whole[i+1:])
		want := api.ErrRequest
		if i >= 9 && i < 12 {
			want = api.ErrDenied
		}
		checked(t, r, keys, 12, "", want)
		checked(t, said("12", whole[:i]), keys, 12, "", api.ErrRequest)
	}
	for i := range len(whole) + 1 {
		for _, b := range []string{"0", "a", "-", " ", ":", "B", "\x00"} {
			r := said("12", whole[:i]+b+whole[i:])
			want := api.ErrRequest
			if i >= 9 && i <= 12 && isName(int(b[0])) {
				want = api.ErrDenied
			}
			checked(t, r, keys, 12, "", want)
		}
	}
}

// P18.1: names of keys of each length.
func TestClaimNames(t *testing.T) {
	for n := 1; n < 200; n++ {
		for _, of := range []string{"a", "Z", "9", "-"} {
			name := strings.Repeat(of, n)
			checked(t, said("12", "BOLLARD1 "+name+":"+right), one(name, "s"), 12, name, nil)
			checked(t, said("12", "BOLLARD1 "+name+":"+right), one(name+of, "s"), 12, "", api.ErrDenied)
			checked(t, said("12", "BOLLARD1 "+name+of+":"+right), one(name, "s"), 12, "", api.ErrDenied)
		}
	}
}
