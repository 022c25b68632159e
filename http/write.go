package http

import (
	"bollard/api"
	"strconv"
)

// Reason is a status in words.
func Reason(status int) string {
	switch status {
	case 200:
		return "OK"
	case 204:
		return "No Content"
	case 206:
		return "Partial Content"
	case 400:
		return "Bad Request"
	case 403:
		return "Forbidden"
	case 404:
		return "Not Found"
	case 405:
		return "Method Not Allowed"
	case 409:
		return "Conflict"
	case 413:
		return "Content Too Large"
	case 416:
		return "Range Not Satisfiable"
	case 500:
		return "Internal Server Error"
	case 503:
		return "Service Unavailable"
	case 507:
		return "Insufficient Storage"
	}
	return "Unknown"
}

// Write is a response's bytes, with a field content-length of its own behind its fields.
func Write(r api.Response) []byte {
	own := api.Field{Name: lengthName, Value: strconv.Itoa(len(r.Body))}
	out := []byte(version + " " + strconv.Itoa(r.Status) + " " + Reason(r.Status) + lineEnd)
	// A slice without spare room makes append copy the fields: what lies behind them is the caller's.
	for _, f := range append(r.Fields[:len(r.Fields):len(r.Fields)], own) {
		out = append(out, f.Name+": "+f.Value+lineEnd...)
	}
	out = append(out, lineEnd...)
	return append(out, r.Body...)
}
