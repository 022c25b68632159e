package sig

import (
	"bollard/api"
	"bollard/mac"
	"bollard/sha"
	"bollard/uri"
	"strconv"
	"strings"
)

const (
	version  = "BOLLARD1"
	lineEnd  = "\n"
	lastWord = "s3"
)

// textOf is what is signed of a request, whose target is taken apart already, at a good date.
func textOf(r api.Request, u api.Uri, date int) string {
	path, query := uri.Canonical(u)
	digest := sha.Sum(r.Body)
	lines := []string{version, strconv.Itoa(date), r.Method, path, query, sha.Hex(digest[:])}
	return strings.Join(lines, lineEnd)
}

// signature is that of what is signed under a secret.
func signature(secret, text string, date int) string {
	key := mac.Derive(secret, strconv.Itoa(date), lastWord)
	code := mac.Sum(key, []byte(text))
	return sha.Hex(code[:])
}
