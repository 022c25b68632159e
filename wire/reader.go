package wire

import (
	"bollard/api"
	"bytes"
)

// Reader goes through bytes.
type Reader struct {
	bytes []byte
	place int
}

// NewReader is a reader at the beginning of bytes.
func NewReader(b []byte) *Reader {
	return &Reader{bytes: bytes.Clone(b)}
}

// Num reads a number of at most most.
func (r *Reader) Num(most int) (int, error) {
	n, size, ok := numberAt(r.left())
	if !ok || n > most {
		return 0, api.ErrBytes
	}
	r.place += size
	return n, nil
}

// Text reads a text of at most most bytes.
func (r *Reader) Text(most int) (string, error) {
	piece, err := r.piece(most)
	return string(piece), err
}

// Bytes reads a list of at most most bytes.
func (r *Reader) Bytes(most int) ([]byte, error) {
	piece, err := r.piece(most)
	return bytes.Clone(piece), err
}

// Left is how many bytes are left.
func (r *Reader) Left() int {
	return len(r.left())
}

// End asks that none are left.
func (r *Reader) End() error {
	if r.Left() > 0 {
		return api.ErrBytes
	}
	return nil
}

func (r *Reader) left() []byte {
	return r.bytes[r.place:]
}

// piece goes behind a number of bytes and as many bytes, and answers these: the reader's own memory, so not to be handed out.
func (r *Reader) piece(most int) ([]byte, error) {
	n, size, ok := numberAt(r.left())
	if !ok || n > most || n > r.Left()-size {
		return nil, api.ErrBytes
	}
	first := r.place + size
	r.place = first + n
	return r.bytes[first:r.place], nil
}
