package http

import (
	"bollard/api"
	"strings"
)

const (
	lineEnd    = "\r\n"
	headEnd    = lineEnd + lineEnd
	version    = "HTTP/1.1"
	lengthName = "content-length"
	codingName = "transfer-encoding"
	maxMethod  = 16
	maxDigits  = 9
)

// readHead is the request of a head (without its end), still without its body, and how many bytes the body should have.
func readHead(head string) (api.Request, int, error) {
	lines := strings.Split(head, lineEnd)
	r, ok := readFirst(lines[0])
	if !ok {
		return api.Request{}, 0, api.ErrRequest
	}
	// Fields are counted only behind this loop: a wrong one comes ahead of one too many.
	for _, line := range lines[1:] {
		f, ok := readField(line)
		if !ok {
			return api.Request{}, 0, api.ErrRequest
		}
		r.Fields = append(r.Fields, f)
	}
	if len(r.Fields) > api.MaxFields {
		return api.Request{}, 0, api.ErrLarge
	}
	size, err := bodySize(r)
	if err != nil {
		return api.Request{}, 0, err
	}
	return r, size, nil
}

// readFirst takes the method and the target out of the first line.
func readFirst(line string) (api.Request, bool) {
	method, rest, _ := strings.Cut(line, " ")
	target, last, _ := strings.Cut(rest, " ")
	if !goodMethod(method) || !goodTarget(target) || last != version {
		return api.Request{}, false
	}
	return api.Request{Method: method, Target: target}, true
}

// readField takes the name, in small letters, and the value out of any other line.
func readField(line string) (api.Field, bool) {
	name, value, ok := strings.Cut(line, ":")
	if !ok || !goodName(name) || !goodValue(value) {
		return api.Field{}, false
	}
	return api.Field{Name: strings.ToLower(name), Value: strings.Trim(value, " \t")}, true
}

// bodySize is how many bytes the body should have by the fields.
func bodySize(r api.Request) (int, error) {
	if Count(r, codingName) > 0 || Count(r, lengthName) > 1 {
		return 0, api.ErrRequest
	}
	text, ok := Field(r, lengthName)
	if !ok {
		return 0, nil
	}
	size, ok := number(text)
	if !ok {
		return 0, api.ErrRequest
	}
	if size > api.MaxBody {
		return 0, api.ErrLarge
	}
	return size, nil
}

// number is the number of one to nine digits, which may begin with noughts.
func number(text string) (int, bool) {
	if text == "" || len(text) > maxDigits || !all(text, isDigit) {
		return 0, false
	}
	n := 0
	for i := range len(text) {
		n = 10*n + int(text[i]-'0')
	}
	return n, true
}

func goodMethod(text string) bool {
	return text != "" && len(text) <= maxMethod && all(text, isGreat)
}

func goodTarget(text string) bool {
	return strings.HasPrefix(text, "/") && all(text, func(c byte) bool { return c > ' ' && c <= '~' })
}

func goodName(text string) bool {
	return text != "" && all(text, func(c byte) bool { return isGreat(c) || isSmall(c) || isDigit(c) || c == '-' })
}

func goodValue(text string) bool {
	return all(text, func(c byte) bool { return c >= ' ' && c <= '~' || c == '\t' })
}

// all tells whether each byte is as asked.
func all(text string, good func(byte) bool) bool {
	for i := range len(text) {
		if !good(text[i]) {
			return false
		}
	}
	return true
}

func isGreat(c byte) bool { return c >= 'A' && c <= 'Z' }

func isSmall(c byte) bool { return c >= 'a' && c <= 'z' }

func isDigit(c byte) bool { return c >= '0' && c <= '9' }
