package http

import (
	"bollard/api"
	"bytes"
	"fmt"
	"regexp"
	"strconv"
	"strings"
)

// Another implementation, by the chapter's words: lines are held against regular expressions, and what is wrong is counted first and told in its order behind.

var (
	plainFirst  = regexp.MustCompile(`\A([A-Z]{1,16}) (/[!-~]*) HTTP/1\.1\z`)
	plainLine   = regexp.MustCompile(`\A([A-Za-z0-9-]+):[ \t]*((?:[\t -~]*[!-~])?)[ \t]*\z`)
	plainLength = regexp.MustCompile(`\A[0-9]{1,9}\z`)
)

// plainHead is what the lines of a head come to.
type plainHead struct {
	request                    api.Request
	wrong, codings, lengths, n int
	size                       int
}

func (h *plainHead) first(line string) {
	found := plainFirst.FindStringSubmatch(line)
	if found == nil {
		h.wrong++
		return
	}
	h.request.Method, h.request.Target = found[1], found[2]
}

func (h *plainHead) field(line string) {
	h.n++
	found := plainLine.FindStringSubmatch(line)
	if found == nil {
		h.wrong++
		return
	}
	name := strings.ToLower(found[1])
	h.request.Fields = append(h.request.Fields, api.Field{Name: name, Value: found[2]})
	if name == "transfer-encoding" {
		h.codings++
	}
	if name == "content-length" {
		h.lengths++
		h.length(found[2])
	}
}

func (h *plainHead) length(value string) {
	size, err := strconv.ParseUint(value, 10, 30)
	if !plainLength.MatchString(value) || err != nil {
		h.codings++ // an error at the same place
	}
	h.size = int(size)
}

func plainParse(s string) (api.Request, int, error) {
	head, behind, whole := strings.Cut(s, "\r\n\r\n")
	if whole && len(head)+4 > maxHead || !whole && len(s) > maxHead-1 {
		return api.Request{}, 0, api.ErrLarge
	}
	if !whole {
		return api.Request{}, 0, nil
	}
	var h plainHead
	for i, line := range strings.Split(head, "\r\n") {
		if i == 0 {
			h.first(line)
		} else {
			h.field(line)
		}
	}
	switch {
	case h.wrong > 0:
		return api.Request{}, 0, api.ErrRequest
	case h.n > maxFields:
		return api.Request{}, 0, api.ErrLarge
	case h.codings > 0 || h.lengths > 1:
		return api.Request{}, 0, api.ErrRequest
	case h.size > maxBody:
		return api.Request{}, 0, api.ErrLarge
	case len(behind) < h.size:
		return api.Request{}, 0, nil
	}
	h.request.Body = []byte(behind[:h.size])
	return h.request, len(head) + 4 + h.size, nil
}

// plainReasons are the statuses that the chapter names, with their words.
func plainReasons() map[int]string {
	return map[int]string{
		200: "OK",
		204: "No Content",
		206: "Partial Content",
		400: "Bad Request",
		403: "Forbidden",
		404: "Not Found",
		405: "Method Not Allowed",
		409: "Conflict",
		413: "Content Too Large",
		416: "Range Not Satisfiable",
		500: "Internal Server Error",
		503: "Service Unavailable",
		507: "Insufficient Storage",
	}
}

func plainReason(status int) string {
	if word, ok := plainReasons()[status]; ok {
		return word
	}
	return "Unknown"
}

func plainWrite(r api.Response) []byte {
	var out bytes.Buffer
	fmt.Fprintf(&out, "HTTP/1.1 %d %s\r\n", r.Status, plainReason(r.Status))
	for _, f := range r.Fields {
		fmt.Fprintf(&out, "%s: %s\r\n", f.Name, f.Value)
	}
	fmt.Fprintf(&out, "content-length: %d\r\n\r\n%s", len(r.Body), r.Body)
	return out.Bytes()
}

// plainFind is the values of all fields with a name.
func plainFind(r api.Request, name string) []string {
	var out []string
	for i := len(r.Fields) - 1; i >= 0; i-- {
		if strings.Compare(r.Fields[i].Name, name) == 0 {
			out = append([]string{r.Fields[i].Value}, out...)
		}
	}
	return out
}
