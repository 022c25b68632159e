package sig

import (
	"bollard/api"
	"crypto/hmac"
	"crypto/sha256"
	"encoding/hex"
	"fmt"
	"math/big"
	"regexp"
	"sort"
	"strings"
)

// Another implementation, by the chapter's words: what is wrong is looked for whole, whatever else is, and the first in the chapter's order is told; fields are held against regular expressions, all of one name in one text.

const plainWritten = `%(?:[2-6][0-9A-Fa-f]|7[0-9A-Ea-e])`

var (
	plainTarget = regexp.MustCompile(`\A(/(?:[ -$&->@-~]|` + plainWritten + `)*)(?:\?((?:[ -$&-~]|` + plainWritten + `)*))?\z`)
	plainEscape = regexp.MustCompile(`%[0-9A-Fa-f]{2}`)
	plainOther  = regexp.MustCompile(`[^A-Za-z0-9_.~-]`)
	plainDate   = regexp.MustCompile(`\A(?:0|[1-9][0-9]*)\z`)
	plainName   = regexp.MustCompile(`\A[A-Za-z0-9-]+\z`)
	plainClaim  = regexp.MustCompile(`\ABOLLARD1 ([A-Za-z0-9-]+):([0-9a-f]{64})\z`)
)

func plainDecode(s string) string {
	return plainEscape.ReplaceAllStringFunc(s, func(three string) string {
		b, err := hex.DecodeString(three[1:])
		if err != nil {
			panic(err)
		}
		return string(b)
	})
}

func plainEncode(s string) string {
	return plainOther.ReplaceAllStringFunc(s, func(c string) string { return fmt.Sprintf("%%%02X", c) })
}

// plainCanonical is a target's path and query in one form, and whether it is a target.
func plainCanonical(target string) (string, string, bool) {
	found := plainTarget.FindStringSubmatch(target)
	if found == nil {
		return "", "", false
	}
	var two [][2]string
	for _, piece := range strings.Split(found[2], "&") {
		if piece != "" {
			cut := append(strings.SplitN(piece, "=", 2), "")
			two = append(two, [2]string{plainDecode(cut[0]), plainDecode(cut[1])})
		}
	}
	sort.Slice(two, func(i, j int) bool {
		return two[i][0] < two[j][0] || two[i][0] == two[j][0] && two[i][1] < two[j][1]
	})
	var query []string
	for _, p := range two {
		query = append(query, plainEncode(p[0])+"="+plainEncode(p[1]))
	}
	path := strings.ReplaceAll(plainEncode(plainDecode(found[1])), "%2F", "/")
	return path, strings.Join(query, "&"), true
}

// plainGoodDate tells whether a number, in decimal digits, is one of a date.
func plainGoodDate(date string) bool {
	n, ok := new(big.Int).SetString(date, 10)
	return ok && n.Sign() >= 0 && n.Cmp(new(big.Int).Lsh(big.NewInt(1), 40)) <= 0
}

func plainText(r api.Request, date int) (string, error) {
	path, query, ok := plainCanonical(r.Target)
	switch {
	case !ok:
		return "", api.ErrUri
	case !plainGoodDate(fmt.Sprint(date)):
		return "", api.ErrRequest
	}
	return fmt.Sprintf("BOLLARD1\n%d\n%s\n%s\n%s\n%x", date, r.Method, path, query, sha256.Sum256(r.Body)), nil
}

func plainStep(key []byte, word string) []byte {
	h := hmac.New(sha256.New, key)
	_, _ = h.Write([]byte(word))
	return h.Sum(nil)
}

func plainSignature(secret, date, text string) string {
	key := plainStep(plainStep([]byte("BOLLARD"+secret), date), "s3")
	return hex.EncodeToString(plainStep(key, text))
}

func plainSign(r api.Request, key api.Key, date int) (api.Request, error) {
	s, err := plainText(r, date)
	switch {
	case err != nil:
		return api.Request{}, err
	case !plainName.MatchString(key.Name):
		return api.Request{}, api.ErrRequest
	}
	out := api.Request{Method: r.Method, Target: r.Target, Body: r.Body}
	for _, f := range r.Fields {
		switch f.Name {
		case "x-date", "authorization":
		default:
			out.Fields = append(out.Fields, f)
		}
	}
	out.Fields = append(out.Fields, api.Field{Name: "x-date", Value: fmt.Sprint(date)})
	out.Fields = append(out.Fields, api.Field{Name: "authorization", Value: fmt.Sprintf("BOLLARD1 %s:%s", key.Name, plainSignature(key.Secret, fmt.Sprint(date), s))})
	return out, nil
}

// plainAll are the values of all fields of a name in one text; those of two hold a byte that no date and no claim has.
func plainAll(r api.Request, name string) string {
	var all []string
	for _, f := range r.Fields {
		if f.Name == name {
			all = append(all, f.Value)
		}
	}
	return strings.Join(all, "\x00")
}

// plainRight tells whether the last one looked at, from the back, of all keys of a name gives a signature.
func plainRight(keys []api.Key, name, signature, date, s string) bool {
	right := false
	for i := range keys {
		if k := keys[len(keys)-1-i]; k.Name == name {
			right = plainSignature(k.Secret, date, s) == signature
		}
	}
	return right
}

// plainFar tells whether a date and a time are more than Skew ticks apart.
func plainFar(date string, now int) bool {
	n, ok := new(big.Int).SetString(date, 10)
	return !ok || n.Sub(n, big.NewInt(int64(now))).CmpAbs(big.NewInt(100)) > 0
}

func plainCheck(r api.Request, keys []api.Key, now int) (string, error) {
	path, query, good := plainCanonical(r.Target)
	date := plainAll(r, "x-date")
	said := append(plainClaim.FindStringSubmatch(plainAll(r, "authorization")), "", "", "")
	s := fmt.Sprintf("BOLLARD1\n%s\n%s\n%s\n%s\n%x", date, r.Method, path, query, sha256.Sum256(r.Body))
	wrong := []struct {
		is  bool
		err error
	}{
		{!good, api.ErrUri},
		{!plainDate.MatchString(date) || !plainGoodDate(date) || said[0] == "", api.ErrRequest},
		{!plainRight(keys, said[1], said[2], date, s), api.ErrDenied},
		{plainFar(date, now), api.ErrSkew},
	}
	for _, w := range wrong {
		if w.is {
			return "", w.err
		}
	}
	return said[1], nil
}
