package wire

import (
	"bollard/api"
	"bytes"
)

// Writer puts things one behind the other.
type Writer struct {
	put    []byte
	spoilt bool
}

// NewWriter is an empty writer.
func NewWriter() *Writer {
	return &Writer{}
}

// Num puts a number; one below 0 spoils the writer for ever.
func (w *Writer) Num(n int) {
	if n < 0 {
		w.spoilt = true
		return
	}
	w.put = appendNumber(w.put, n)
}

// Text puts a text.
func (w *Writer) Text(s string) {
	w.Num(len(s))
	w.put = append(w.put, s...)
}

// Bytes puts a list of bytes.
func (w *Writer) Bytes(b []byte) {
	w.Num(len(b))
	w.put = append(w.put, b...)
}

// Done is all that was put so far.
func (w *Writer) Done() ([]byte, error) {
	if w.spoilt {
		return nil, api.ErrNumber
	}
	return bytes.Clone(w.put), nil
}
