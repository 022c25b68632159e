package http

import (
	"bollard/api"
	"strconv"
	"strings"
	"testing"
)

// lengthy is a request with that value of content-length and that body.
func lengthy(value, body string) api.Request {
	r := get("content-length", value)
	r.Body = []byte(body)
	return r
}

// P16.1: content-length of every number up to some above MaxBody.
func TestEachLength(t *testing.T) {
	body := strings.Repeat("0123456789", 150)
	for n := range 1400 {
		s := lines("content-length: " + strconv.Itoa(n))
		if n > maxBody {
			refused(t, s, api.ErrLarge)
			refused(t, s+body[:n], api.ErrLarge)
			continue
		}
		taken(t, s+body[:n], lengthy(strconv.Itoa(n), body[:n]))
		parsed(t, s+body, lengthy(strconv.Itoa(n), body[:n]), len(s)+n, nil)
		if n > 0 {
			waits(t, s)
			waits(t, s+body[:n-1])
		}
	}
}

// P16.1: content-length has one to nine digits, noughts ahead among them.
func TestDigits(t *testing.T) {
	for _, value := range []string{"0", "00", "000000000", "3", "03", "0003", "00000003", "000000003"} {
		n, _ := strconv.Atoi(value)
		body := "abc"[:n]
		taken(t, lines("content-length: "+value)+body, lengthy(value, body))
		if n > 0 {
			waits(t, lines("content-length: "+value)+"ab")
		}
	}
	for _, value := range []string{"1025", "9999", "10000", "65536", "99999999", "100000000", "999999999", "000001025", "001000000", "4294968"} {
		refused(t, lines("content-length: "+value), api.ErrLarge)
	}
	for _, value := range []string{"0000000000", "0000000003", "1000000000", "9999999999", "4294967296", "4294967299", "18446744073709551616", "18446744073709551619", "00000000000000000000", strings.Repeat("0", 1000), strings.Repeat("9", 1000)} {
		refused(t, lines("content-length: "+value)+"abc", api.ErrRequest)
	}
	taken(t, lines("content-length: 000001024")+strings.Repeat("b", 1024), lengthy("000001024", strings.Repeat("b", 1024)))
}

// P16.1: a content-length that isn't digits.
func TestNotDigits(t *testing.T) {
	for _, value := range []string{"", " ", "\t", "x", "+3", "-3", "-0", "+0", "3 3", "3\t3", "3,3", "3, 3", "0x3", "3x", "x3", "3.0", ".3", "3.", "3e0", "0_3", "3;", "\"3\"", "three", "0b1", "0o3", "'3", "- 3", "3-", "3+", ":3", "3:"} {
		refused(t, lines("content-length: "+value)+"abc", api.ErrRequest)
		refused(t, lines("host: x", "content-length:"+value, "a: b")+"abc", api.ErrRequest)
	}
	for c := 32; c <= 126; c++ {
		one := string([]byte{byte(c)})
		digit := c >= 48 && c <= 57
		if digit {
			continue
		}
		refused(t, lines("content-length: 0"+one+"0"), api.ErrRequest)
		if c != 32 {
			refused(t, lines("content-length: "+one), api.ErrRequest)
			refused(t, lines("content-length: "+one+"0"), api.ErrRequest)
			refused(t, lines("content-length: 0"+one), api.ErrRequest)
			refused(t, lines("content-length: 00000000"+one), api.ErrRequest)
			refused(t, lines("content-length: "+one+"00000000"), api.ErrRequest)
		}
	}
	for c := 48; c <= 57; c++ {
		one := string([]byte{byte(c)})
		body := "123456789"[:c-48]
		taken(t, lines("content-length: "+one)+body, lengthy(one, body))
		taken(t, lines("content-length: 0"+one)+body, lengthy("0"+one, body))
	}
}

// P16.1: blanks about the digits are no part of the value.
func TestBlanksAboutDigits(t *testing.T) {
	for _, value := range []string{"3", " 3", "3 ", "\t3\t", "  3  ", " \t3 \t"} {
		taken(t, lines("content-length:"+value)+"abc", lengthy("3", "abc"))
	}
	for _, blanks := range []string{" ", "\t", "   "} {
		taken(t, lines("content-length:"+blanks+"000000003"+blanks)+"abc", lengthy("000000003", "abc"))
		refused(t, lines("content-length:"+blanks+"0000000003"+blanks)+"abc", api.ErrRequest)
	}
}

// P16.1: more than one content-length, with the same value or with another, good or not.
func TestTwoLengths(t *testing.T) {
	for _, one := range []string{"0", "3", "03", "1024", "1025", "x", ""} {
		for _, other := range []string{"0", "3", "03", "1024", "1025", "x", ""} {
			refused(t, lines("content-length: "+one, "content-length: "+other)+"abc", api.ErrRequest)
			refused(t, lines("content-length: "+one, "host: x", "content-length: "+other)+"abc", api.ErrRequest)
			refused(t, lines("content-length: "+one, "Content-Length: "+other, "CONTENT-LENGTH: "+one)+"abc", api.ErrRequest)
		}
	}
}

// P16.1: a field transfer-encoding of any value, alone and beside others.
func TestTransferEncoding(t *testing.T) {
	for _, value := range []string{"", " ", "chunked", "identity", "gzip, chunked", "0", "3", "x"} {
		line := "transfer-encoding: " + value
		refused(t, lines(line), api.ErrRequest)
		refused(t, lines(line, line), api.ErrRequest)
		refused(t, lines("a: b", line, "c: d"), api.ErrRequest)
		refused(t, lines(line, "content-length: 3")+"abc", api.ErrRequest)
		refused(t, lines("content-length: 3", line)+"abc", api.ErrRequest)
		refused(t, lines("content-length: 1025", line), api.ErrRequest)
		refused(t, lines(line, "content-length: 1025"), api.ErrRequest)
		refused(t, lines(line)+"0\r\n\r\n", api.ErrRequest)
	}
	taken(t, lines("transfer-encodin: a", "ransfer-encoding: b", "transfer-encoding-: c", "transferencoding: d", "te: e", "encoding: f", "x: transfer-encoding: g"), get(
		"transfer-encodin", "a", "ransfer-encoding", "b", "transfer-encoding-", "c", "transferencoding", "d", "te", "e", "encoding", "f", "x", "transfer-encoding: g",
	))
}

// fault is something wrong, with its error: what stands ahead in the row is told.
type fault struct {
	first string
	lines []string
	want  error
}

// faults are in the order of the chapter's errors.
func faults() []fault {
	var many []string
	for range maxFields + 1 {
		many = append(many, "m: m")
	}
	return []fault{
		{"", []string{"v: " + strings.Repeat("v", maxHead)}, api.ErrLarge},
		{"get / HTTP/1.1", nil, api.ErrRequest},
		{"", []string{"no colon"}, api.ErrRequest},
		{"", many, api.ErrLarge},
		{"", []string{"transfer-encoding: chunked"}, api.ErrRequest},
		{"", []string{"content-length: x"}, api.ErrRequest},
		{"", []string{"content-length: 1025"}, api.ErrLarge},
	}
}

// P16.1: of any errors together the first in the chapter's order is told, wherever they stand.
func TestErrorsOrder(t *testing.T) {
	all := faults()
	for set := 1; set < 1<<len(all); set++ {
		first := "GET / HTTP/1.1"
		var ahead, behind []string
		var want error
		for i, f := range all {
			if set>>i&1 == 0 {
				continue
			}
			if want == nil {
				want = f.want
			}
			if f.first != "" {
				first = f.first
			}
			ahead = append(ahead, f.lines...)
			behind = append(append([]string{}, f.lines...), behind...)
		}
		for _, rest := range [][]string{ahead, behind} {
			s := strings.Join(append([]string{first}, rest...), "\r\n") + "\r\n\r\n"
			refused(t, s, want)
			refused(t, strings.Replace(s, "\r\n", "\r\na: b\r\n", 1), want)
		}
	}
}

// P16.1: errors come ahead of a body that is short.
func TestErrorsAheadOfBody(t *testing.T) {
	refused(t, lines("content-length: 5", "transfer-encoding: x")+"ab", api.ErrRequest)
	refused(t, lines("content-length: 5", "content-length: 5")+"ab", api.ErrRequest)
	refused(t, lines("content-length: 5", "x")+"ab", api.ErrRequest)
	refused(t, strings.Replace(lines("content-length: 5"), "GET", "GEt", 1)+"ab", api.ErrRequest)
	out, _ := rows(maxFields)
	refused(t, lines(append(out, "content-length: 5")...)+"ab", api.ErrLarge)
	refused(t, lines(append(out, "content-length: 5", "content-length: 5")...)+"ab", api.ErrLarge)
	refused(t, lines(append(out, "transfer-encoding: x")...), api.ErrLarge)
	refused(t, lines(append(out, "content-length: 1025")...), api.ErrLarge)
	waits(t, lines(append(out[1:], "content-length: 25")...)+"ab")
}
