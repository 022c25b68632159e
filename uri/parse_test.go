package uri

import (
	"fmt"
	"strings"
	"testing"
)

// P17.1: the chapter's examples.
func TestExamples(t *testing.T) {
	taken(t, "/a%20b?x=1&y", "/a b", "x", "1", "y", "")
	encoded(t, "a/b c", true, "a/b%20c")
	encoded(t, "a/b c", false, "a%2Fb%20c")
	refused(t, "/%1")
	refused(t, "/%00")
	refused(t, "a")
}

// P17.1: ordinary targets.
func TestOrdinary(t *testing.T) {
	taken(t, "/aaa", "/aaa")
	taken(t, "/aaa/k", "/aaa/k")
	taken(t, "/aaa/a/b//c/", "/aaa/a/b//c/")
	taken(t, "/aaa/../k/.", "/aaa/../k/.")
	taken(t, "/aaa?max=1", "/aaa", "max", "1")
	taken(t, "/aaa?max=1&token=61", "/aaa", "max", "1", "token", "61")
	taken(t, "/aaa/k?upload=0-0-1&parts=1,2", "/aaa/k", "upload", "0-0-1", "parts", "1,2")
	taken(t, "/aaa?days=10", "/aaa", "days", "10")
	taken(t, "/a+b%2Bc?d+e=f%2Bg", "/a+b+c", "d+e", "f+g")
	taken(t, "/%41%62?%43=%64", "/Ab", "C", "d")
	taken(t, "/%2541?%2542=%2543", "/%41", "%42", "%43")
}

// P17.1: the empty text, "/" alone, and each byte ahead of what is good.
func TestBeginning(t *testing.T) {
	refused(t, "")
	taken(t, "/", "/")
	taken(t, "//", "//")
	for c := range 256 {
		first := string([]byte{byte(c)})
		judged(t, first, c == '/', "/")
		judged(t, first+"aaa", c == '/', "/aaa")
		judged(t, first+"/aaa", c == '/', "//aaa")
		judged(t, first+"?x=1", c == '/', "/", "x", "1")
	}
	refused(t, "?")
	refused(t, "?/")
	refused(t, "x=1")
	refused(t, "%2F")
	refused(t, "%2Faaa")
	refused(t, " /")
	refused(t, "http://host/aaa")
}

// P17.1: the first "?" begins the query, and the others are bytes of it.
func TestQuestions(t *testing.T) {
	taken(t, "/?", "/")
	taken(t, "/aaa?", "/aaa")
	taken(t, "/??", "/", "?", "")
	taken(t, "/???", "/", "??", "")
	taken(t, "/?a?b", "/", "a?b", "")
	taken(t, "/?a?=?b?", "/", "a?", "?b?")
	taken(t, "/?a=b?c=d", "/", "a", "b?c=d")
	taken(t, "/?a&?b", "/", "a", "", "?b", "")
	taken(t, "/?=?", "/", "", "?")
	taken(t, "/?&?", "/", "?", "")
	taken(t, "/a=b&c?d", "/a=b&c", "d", "")
	taken(t, "/a=b&c=d", "/a=b&c=d")
	taken(t, "/?/a/b=/c", "/", "/a/b", "/c")
}

// P17.1: bytes that would cut don't when they are written with "%".
func TestWrittenCuts(t *testing.T) {
	taken(t, "/a%3Fb=c", "/a?b=c")
	taken(t, "/a%3fb?c", "/a?b", "c", "")
	taken(t, "/%3F?%3F=%3F", "/?", "?", "?")
	taken(t, "/%2F?%2F=%2F", "//", "/", "/")
	taken(t, "/%26?%26=%26", "/&", "&", "&")
	taken(t, "/%3D?%3D=%3D", "/=", "=", "=")
	taken(t, "/%25?%25=%25", "/%", "%", "%")
	taken(t, "/%2B?%2B=%2B", "/+", "+", "+")
	taken(t, "/?a%26b=c%26d&e", "/", "a&b", "c&d", "e", "")
	taken(t, "/?a%3Db=c", "/", "a=b", "c")
	taken(t, "/?a%3Db", "/", "a=b", "")
	taken(t, "/?%26", "/", "&", "")
	taken(t, "/?%3D", "/", "=", "")
	taken(t, "/?%26&%26", "/", "&", "", "&", "")
	taken(t, "/%3Fa?b%3Fc=d", "/?a", "b?c", "d")
	taken(t, "/%2525?%252B=%2526", "/%25", "%2B", "%26")
}

// P17.1: empty pieces are passed over wherever they stand.
func TestEmptyPieces(t *testing.T) {
	taken(t, "/?&", "/")
	taken(t, "/?&&", "/")
	taken(t, "/?"+strings.Repeat("&", 100), "/")
	taken(t, "/?&a=1", "/", "a", "1")
	taken(t, "/?&&&a=1", "/", "a", "1")
	taken(t, "/?a=1&", "/", "a", "1")
	taken(t, "/?a=1&&&", "/", "a", "1")
	taken(t, "/?a=1&&b=2", "/", "a", "1", "b", "2")
	taken(t, "/?a=1&&&&b=2", "/", "a", "1", "b", "2")
	taken(t, "/?&&a&&&b=&&=c&&", "/", "a", "", "b", "", "", "c")
	for _, ahead := range []int{0, 1, 2, 5} {
		for _, within := range []int{1, 2, 5} {
			for _, behind := range []int{0, 1, 2, 5} {
				one, two, three := strings.Repeat("&", ahead), strings.Repeat("&", within), strings.Repeat("&", behind)
				taken(t, "/p?"+one+"a=1"+two+"b=2"+two+"c=3"+three, "/p", "a", "1", "b", "2", "c", "3")
				taken(t, "/p?"+one+"a"+two+"b"+three, "/p", "a", "", "b", "")
				taken(t, "/p?"+one+"="+two+"="+three, "/p", "", "", "", "")
			}
		}
	}
}

// P17.1: a name ends at its piece's first "=".
func TestNames(t *testing.T) {
	taken(t, "/?a", "/", "a", "")
	taken(t, "/?a=", "/", "a", "")
	taken(t, "/?a=b", "/", "a", "b")
	taken(t, "/?=b", "/", "", "b")
	taken(t, "/?=", "/", "", "")
	taken(t, "/?==", "/", "", "=")
	taken(t, "/?===", "/", "", "==")
	taken(t, "/?a==", "/", "a", "=")
	taken(t, "/?a=b=", "/", "a", "b=")
	taken(t, "/?a=b=c", "/", "a", "b=c")
	taken(t, "/?a==b=c==", "/", "a", "=b=c==")
	taken(t, "/?=&=", "/", "", "", "", "")
	taken(t, "/?a=&=b&c", "/", "a", "", "", "b", "c", "")
	taken(t, "/?==&==", "/", "", "=", "", "=")
	taken(t, "/? =+ ", "/", " ", "+ ")
}

// P17.1: pairs come in their order, also when names are there several times.
func TestOrder(t *testing.T) {
	taken(t, "/?b=2&a=1", "/", "b", "2", "a", "1")
	taken(t, "/?a=2&a=1", "/", "a", "2", "a", "1")
	taken(t, "/?a=1&a=1", "/", "a", "1", "a", "1")
	taken(t, "/?a&a&a", "/", "a", "", "a", "", "a", "")
	taken(t, "/?a=2&b=1&a=1&b=2", "/", "a", "2", "b", "1", "a", "1", "b", "2")
	taken(t, "/?ab=1&a=2&abc=3&=4", "/", "ab", "1", "a", "2", "abc", "3", "", "4")
	taken(t, "/?A=1&a=2&%61=3&%41=4", "/", "A", "1", "a", "2", "a", "3", "A", "4")
	for _, n := range []int{1, 2, 7, 8, 9, 1000} {
		var all []string
		query := ""
		for i := range n {
			name, value := fmt.Sprint("n", n-i), fmt.Sprint(i%3)
			all = append(all, name, value)
			query += "&" + name + "=" + value
		}
		taken(t, "/?"+query[1:], "/", all...)
	}
}

// P17.1: what is wrong is ErrUri wherever it stands: in the path, in the name or the value of the first, a middle or the last pair.
func TestWrongPlaces(t *testing.T) {
	for _, wrong := range []string{"%", "%4", "%4g", "%g4", "%%41", "%zz", "%-1", "%+1", "% 1", "%1 ", "%0x", "%00", "%1f", "%1F", "%7f", "%7F", "%80", "%ff", "\x00", "\x1f", "\x7f", "\x80", "\xff", "ä", "\t", "\r\n"} {
		for _, part := range []string{wrong, "ok" + wrong, wrong + "&", wrong + "#", "%41" + wrong} {
			path := strings.TrimSuffix(part, "&")
			refused(t, "/"+path)
			refused(t, "/"+path+"/b")
			refused(t, "/"+path+"?")
			refused(t, "/"+path+"?a=1")
			for _, form := range []string{"/?W", "/?W=", "/?W=1", "/?=W", "/?a=W", "/?a==W", "/?a=b=W", "/?W&b=2&c=3", "/?a=W&b=2&c=3", "/?a=1&W=2&c=3", "/?a=1&b=W&c=3", "/?a=1&b=2&W", "/?a=1&b=2&W=3", "/?a=1&b=2&c=W", "/?&&W", "/?W=W", "/?a=W&b=W", "/W?W=W"} {
				refused(t, strings.ReplaceAll(form, "W", part))
			}
		}
	}
}

// P17.1: a "%" needs both digits in its own path, name or value: none is taken from behind a cut.
func TestDigitsBehindCuts(t *testing.T) {
	for _, s := range []string{"/%?41", "/%4?1", "/?%&41", "/?%4&1", "/?%=41", "/?%4=1", "/?a=%&41", "/?a=%4&1", "/?%=41=41", "/?a=%=41", "/?a=%4=1", "/?%4", "/?%", "/?a=%4", "/?a=%", "/?%&", "/?%4&", "/%?", "/%4?", "/?%=", "/?%4="} {
		refused(t, s)
	}
	taken(t, "/%41?41", "/A", "41", "")
	taken(t, "/?%41&1", "/", "A", "", "1", "")
	taken(t, "/?%41=1", "/", "A", "1")
	taken(t, "/?a=%41&1", "/", "a", "A", "1", "")
	taken(t, "/?a=%41=1", "/", "a", "A=1")
}

// P17.1: long paths, names, values and rows of pieces.
func TestLong(t *testing.T) {
	for _, n := range []int{100, 2000, 300000} {
		a, b := strings.Repeat("ab", n), strings.Repeat("%41", n)
		taken(t, "/"+a+b, "/"+a+strings.Repeat("A", n))
		taken(t, "/?"+a+"="+b, "/", a, strings.Repeat("A", n))
		taken(t, "/?"+b+"="+a, "/", strings.Repeat("A", n), a)
		refused(t, "/"+a+b+"%")
		refused(t, "/?"+a+"="+b+"%4")
		u, err := Parse("/?" + strings.Repeat("a=b&", n))
		holds(t, err == nil && u.Path == "/" && len(u.Query) == n, "Parse of", n, "pairs:", len(u.Query), err)
		for _, p := range u.Query {
			holds(t, p.Name == "a" && p.Value == "b", "Parse of", n, "pairs:", text(p))
		}
		u, err = Parse("/?" + strings.Repeat("&", n))
		holds(t, err == nil && u.Path == "/" && len(u.Query) == 0, "Parse of", n, "empty pieces:", len(u.Query), err)
	}
}
