package uri

import (
	"bollard/api"
	"encoding/hex"
	"fmt"
	"regexp"
	"strings"
)

// Another implementation, by the chapter's words: a target is held whole against one regular expression ahead of being cut, and pairs are put at the places that counting tells.

const (
	plainWritten = `%(?:[2-6][0-9A-Fa-f]|7[0-9A-Ea-e])`
	plainPath    = `/(?:[ -$&->@-~]|` + plainWritten + `)*`
	plainRest    = `\?(?:[ -$&-~]|` + plainWritten + `)*`
)

var (
	plainTarget = regexp.MustCompile(`\A(` + plainPath + `)(` + plainRest + `)?\z`)
	plainEscape = regexp.MustCompile(`%..`)
)

func plainDecode(s string) string {
	return plainEscape.ReplaceAllStringFunc(s, func(three string) string {
		b, err := hex.DecodeString(three[1:])
		if err != nil {
			panic(err)
		}
		return string(b)
	})
}

func plainParse(target string) (api.Uri, error) {
	found := plainTarget.FindStringSubmatch(target)
	if found == nil {
		return api.Uri{}, api.ErrUri
	}
	u := api.Uri{Path: plainDecode(found[1])}
	query := strings.TrimPrefix(found[2], "?")
	for _, piece := range strings.FieldsFunc(query, func(c rune) bool { return c == '&' }) {
		two := append(strings.SplitN(piece, "=", 2), "")
		u.Query = append(u.Query, api.Pair{Name: plainDecode(two[0]), Value: plainDecode(two[1])})
	}
	return u, nil
}

func plainGet(u api.Uri, name string) (string, bool) {
	value, ok := "", false
	for i := len(u.Query) - 1; i >= 0; i-- {
		if strings.Compare(u.Query[i].Name, name) == 0 {
			value, ok = u.Query[i].Value, true
		}
	}
	return value, ok
}

const plainBytes = "ABCDEFGHIJKLMNOPQRSTUVWXYZabcdefghijklmnopqrstuvwxyz0123456789-_.~"

func plainEncode(s string, slash bool) string {
	as := plainBytes
	if slash {
		as += "/"
	}
	var out strings.Builder
	for _, c := range []byte(s) {
		if strings.IndexByte(as, c) >= 0 {
			out.WriteByte(c)
		} else {
			fmt.Fprintf(&out, "%%%02X", c)
		}
	}
	return out.String()
}

// plainBefore tells whether a pair comes ahead of another one.
func plainBefore(a, b api.Pair) bool {
	return a.Name < b.Name || a.Name == b.Name && a.Value < b.Value
}

// plainSorted puts each pair behind as many as come ahead of it.
func plainSorted(pairs []api.Pair) []api.Pair {
	out := make([]api.Pair, len(pairs))
	for i, p := range pairs {
		place := 0
		for j, q := range pairs {
			if plainBefore(q, p) || q == p && j < i {
				place++
			}
		}
		out[place] = p
	}
	return out
}

func plainCanonical(u api.Uri) (string, string) {
	query := ""
	for i, p := range plainSorted(u.Query) {
		if i > 0 {
			query += "&"
		}
		query += plainEncode(p.Name, false) + "=" + plainEncode(p.Value, false)
	}
	return plainEncode(u.Path, true), query
}

func plainJoin(u api.Uri) string {
	path, query := plainCanonical(u)
	return strings.TrimSuffix(path+"?"+query, "?")
}
