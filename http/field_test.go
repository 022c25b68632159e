package http

import (
	"bollard/api"
	"strconv"
	"strings"
	"testing"
)

// P16.1: fields without a colon, or with an empty name.
func TestNoName(t *testing.T) {
	for _, line := range []string{"x", "host", "host x", " ", "\t", ":", ": ", ":x", ": x", "::", ":x:y", " :x", "\t:", " : ", "\r", "\n", "\x00", "=", "a;b", "a=b", "\u00e4", "a\uff1ab"} {
		refused(t, lines(line), api.ErrRequest)
		refused(t, lines("a: b", line), api.ErrRequest)
		refused(t, lines(line, "a: b"), api.ErrRequest)
		refused(t, lines("a: b", line, "c: d"), api.ErrRequest)
	}
	for c := range 256 {
		judged(t, lines("host"+string([]byte{byte(c)})), c == 58, get("host", ""))
	}
}

// P16.1: a name is of letters, digits and "-", at each place, and is answered in small letters.
func TestNameBytes(t *testing.T) {
	for c := range 256 {
		good := c >= 48 && c <= 57 || c >= 65 && c <= 90 || c >= 97 && c <= 122 || c == 45
		low := c
		if c >= 65 && c <= 90 {
			low = c + 32
		}
		one, other := string([]byte{byte(c)}), string([]byte{byte(low)})
		judged(t, lines(one+"x: v"), good, get(other+"x", "v"))
		judged(t, lines("a: b", one+one+"-: v", "c: d"), good, get("a", "b", other+other+"-", "v", "c", "d"))
		if c != 58 {
			judged(t, lines("x"+one+"y: v"), good, get("x"+other+"y", "v"))
			judged(t, lines(one+":"), good, get(other, ""))
			judged(t, lines("x"+one+": v"), good, get("x"+other, "v"))
		}
	}
}

// P16.1: a name goes to the first colon, and has no blanks about it.
func TestNames(t *testing.T) {
	for _, line := range []string{" a: b", "\ta: b", "a : b", "a\t: b", "a b: c", " a : b", "a\t\t: b", "a_b: c", "a.b: c", "a/b: c", "\u00c4: c", "\u212a: c", "\u0130: c", "a\x00: c", "\"a\": c", "a,b: c", "(a): c"} {
		refused(t, lines(line), api.ErrRequest)
		refused(t, lines("host: x", line), api.ErrRequest)
	}
	for _, name := range []string{"a", "-", "--", "0", "-0-", "09", "a-b-c", "x1", strings.Repeat("n", 1000), small + "0123456789-"} {
		taken(t, lines(name+":"), get(name, ""))
		taken(t, lines(name+": v"), get(name, "v"))
		taken(t, lines(strings.ToUpper(name)+": v"), get(name, "v"))
	}
}

// P16.1: great letters in names become small ones, those in methods, targets and values stay.
func TestGreatLetters(t *testing.T) {
	taken(t, "GET /AbC HTTP/1.1\r\nABCDEFGHIJKLMNOPQRSTUVWXYZ: AbC\r\nX-dAtE: XyZ\r\nx-date: \r\n\r\n", api.Request{
		Method: "GET", Target: "/AbC", Fields: fields(small, "AbC", "x-date", "XyZ", "x-date", ""),
	})
	for _, name := range []string{"Content-Length", "CONTENT-LENGTH", "cONTENT-lENGTH", "content-lengtH"} {
		parsed(t, lines(name+": 2")+"abc", api.Request{Method: "GET", Target: "/", Fields: fields("content-length", "2"), Body: []byte("ab")}, 39, nil)
		refused(t, lines(name+": 1025"), api.ErrLarge)
		refused(t, lines(name+": x"), api.ErrRequest)
		refused(t, lines(name+": 2", "content-length: 2")+"ab", api.ErrRequest)
		refused(t, lines("content-length: 2", name+": 2")+"ab", api.ErrRequest)
	}
	for _, name := range []string{"Transfer-Encoding", "TRANSFER-ENCODING", "tRANSFER-eNCODING", "transfer-encodinG"} {
		refused(t, lines(name+": chunked"), api.ErrRequest)
	}
}

// P16.1: a value has bytes 32 to 126, and 9; 32 and 9 not at its ends.
func TestValueBytes(t *testing.T) {
	for c := range 256 {
		good := c >= 32 && c <= 126 || c == 9
		one := string([]byte{byte(c)})
		end := one
		if c == 32 || c == 9 {
			end = ""
		}
		judged(t, lines("x: a"+one+"b"), good, get("x", "a"+one+"b"))
		judged(t, lines("x: a"+one+one+"b", "y: z"), good, get("x", "a"+one+one+"b", "y", "z"))
		judged(t, lines("x:"+one), good, get("x", end))
		judged(t, lines("x:"+one+"b"), good, get("x", end+"b"))
		judged(t, lines("x: "+one+" "), good, get("x", end))
		judged(t, lines("w: v", "x: a"+one), good, get("w", "v", "x", "a"+end))
		judged(t, lines("x: a"+one, "y: z"), good, get("x", "a"+end, "y", "z"))
	}
	all := between(33, 126) + "\t " + between(33, 126)
	taken(t, lines("x:"+all), get("x", all))
}

// P16.1: values that are empty, of blanks and tabs alone, with such about them and within, and with colons.
func TestValues(t *testing.T) {
	for _, blanks := range []string{"", " ", "\t", "  ", "\t\t", " \t", "\t ", " \t \t ", strings.Repeat(" ", 900), strings.Repeat("\t", 900)} {
		taken(t, lines("x:"+blanks), get("x", ""))
		taken(t, lines("x:"+blanks, "y:z"), get("x", "", "y", "z"))
		for _, value := range []string{"v", ":", "::", "a b", "a\tb", "a \t b", "a  b", ": a", "a :", "a: b: c", "\"", "\" \"", "10.0.0.1:80", "a,b;c=d"} {
			taken(t, lines("x:"+blanks+value), get("x", value))
			taken(t, lines("x:"+value+blanks), get("x", value))
			taken(t, lines("x:"+blanks+value+blanks, "y: "+value), get("x", value, "y", value))
		}
	}
}

// P16.1: other bytes that some take for blanks aren't taken away, and are refused.
func TestOtherBlanks(t *testing.T) {
	for _, blank := range []string{"\x0b", "\x0c", "\x00", "\x85", "\xa0", "\u00a0", "\u2003", "\ufeff", "\r", "\n", "\x7f", "\x1f"} {
		refused(t, lines("x:"+blank), api.ErrRequest)
		refused(t, lines("x:"+blank+"v"), api.ErrRequest)
		refused(t, lines("x: v"+blank), api.ErrRequest)
		refused(t, lines("x: "+blank+" v"), api.ErrRequest)
	}
}

// P16.1: a CR or an LF alone, or the two turned about, are refused at each place of a field; so is a line that goes on.
func TestFieldBreaks(t *testing.T) {
	const line = "host: ab c"
	for i := range len(line) + 1 {
		for _, one := range []string{"\r", "\n", "\n\r", "\r\r", "\n\n", "\r\n\n", "\r\n\r"} {
			if i == 0 && strings.HasPrefix(one, "\r\n") { // it would end the head
				continue
			}
			refused(t, lines(line[:i]+one+line[i:]), api.ErrRequest)
			refused(t, lines("x: y", line[:i]+one+line[i:], "z: 0"), api.ErrRequest)
		}
	}
	refused(t, lines("a: b", " c"), api.ErrRequest)
	refused(t, lines("a: b", "\tc"), api.ErrRequest)
	refused(t, lines("a: b", " c: d"), api.ErrRequest)
	refused(t, lines("a: b\nc: d"), api.ErrRequest)
	refused(t, lines("a: b\rc: d"), api.ErrRequest)
	refused(t, lines("a: b\r\r\nc: d"), api.ErrRequest)
	taken(t, lines("a: b\r\nc: d"), get("a", "b", "c", "d"))
}

// P16.1: fields are answered in their order, also those with one name.
func TestOrder(t *testing.T) {
	taken(t, lines("b: 1", "a: 2", "c: 3", "B: 4", "a: 2"), get("b", "1", "a", "2", "c", "3", "b", "4", "a", "2"))
	taken(t, lines("z: 1", "content-length: 0", "host: 2", "HOST: 3"), get("z", "1", "content-length", "0", "host", "2", "host", "3"))
}

// rows are that many lines, each a field, and the fields.
func rows(n int) ([]string, []string) {
	var out, all []string
	for i := range n {
		name, value := "f"+strconv.Itoa(i%7), strconv.Itoa(i)
		out = append(out, name+": "+value)
		all = append(all, name, value)
	}
	return out, all
}

// P16.1: MaxFields fields are taken, one more is ErrLarge.
func TestMaxFields(t *testing.T) {
	for n := range 60 {
		out, all := rows(n)
		if n <= maxFields {
			taken(t, lines(out...), get(all...))
		} else {
			refused(t, lines(out...), api.ErrLarge)
			waits(t, strings.TrimSuffix(lines(out...), "\n"))
		}
	}
	out, _ := rows(150)
	refused(t, lines(out...), api.ErrLarge)
	holds(t, len(lines(out...)) < maxHead, "the head itself is too large")
	refused(t, lines(strings.Split(strings.Repeat("x:,", 500), ",")[:500]...), api.ErrLarge)
}

// P16.1: a wrong field, wherever it stands, comes ahead of one too many, and a wrong first line too.
func TestTooManyAndWrong(t *testing.T) {
	for _, n := range []int{maxFields - 1, maxFields, maxFields + 1, maxFields + 2, 60} {
		for i := range n {
			for _, wrong := range []string{"x", ":", "a b: c", "x: \x7f", " x: y"} {
				out, _ := rows(n)
				out[i] = wrong
				refused(t, lines(out...), api.ErrRequest)
			}
		}
		out, _ := rows(n)
		refused(t, strings.Replace(lines(out...), "GET", "get", 1), api.ErrRequest)
		refused(t, strings.Replace(lines(out...), "1.1", "1.0", 1), api.ErrRequest)
		refused(t, strings.Replace(lines(out...), " /", " a", 1), api.ErrRequest)
	}
}
