package command

import (
	"bollard/api"
	"bytes"
	"encoding/binary"
	"errors"
	"fmt"
	"hash/fnv"
	"reflect"
	"regexp"
	"slices"
	"strings"
	"testing"
)

// The other implementation: names are asked by patterns, fields by their names in the chapter's table, bytes by reading loosely and writing again.
var (
	bucketPattern = regexp.MustCompile(`\A[a-z0-9][-.a-z0-9]{1,61}[a-z0-9]\z`)
	keyPattern    = regexp.MustCompile(`\A[ -~]{1,200}\z`)
	etagPattern   = regexp.MustCompile(`\A[0-9a-f]{64}\z`)
)

// plainKey asks the pattern only of what isn't longer, since a pattern goes through a long text to its end.
func plainKey(key string) bool { return len(key) < 300 && keyPattern.MatchString(key) }

func plainTime(n int) bool { return uint64(n) <= 1099511627776 }

func plainId(id api.Id) bool { return uint64(id.Node) < 16 && plainTime(id.Boot) && plainTime(id.Seq) }

// plainFields is the chapter's table, but for Kind and Id; false, if there is no such kind.
func plainFields(kind int) ([]string, bool) {
	row, ok := map[int]string{
		1: "Bucket Time", 2: "Bucket", 3: "Bucket Key Piece Time", 4: "Bucket Key", 5: "Bucket Key",
		6: "Bucket Key Upload Part Piece", 7: "Bucket Key Upload Parts Time", 8: "Bucket Key Upload",
		9: "Bucket Days", 10: "Time", 11: "",
	}[kind]
	return strings.Fields(row), ok
}

func plainParts(parts []int) bool {
	rising := slices.Compact(slices.Sorted(slices.Values(parts)))
	return len(parts) > 0 && slices.Equal(rising, parts) && rising[0] > 0 && rising[len(rising)-1] < 17
}

// plainGood tells whether the field of that name is good in the command.
func plainGood(name string, c api.Command) bool {
	switch name {
	case "Bucket":
		return len(c.Bucket) < 100 && bucketPattern.MatchString(c.Bucket)
	case "Key":
		return plainKey(c.Key)
	case "Upload":
		return plainId(c.Upload)
	case "Piece":
		return c.Piece.Blob == c.Id && plainId(c.Id) && uint64(c.Piece.Size) <= 1024 && etagPattern.MatchString(c.Piece.Etag)
	case "Part":
		return plainParts([]int{c.Part})
	case "Parts":
		return plainParts(c.Parts)
	case "Time":
		return plainTime(c.Time)
	}
	return plainTime(c.Days)
}

func plainForm(c api.Command) bool {
	has, ok := plainFields(c.Kind)
	rest := c
	for _, name := range has {
		ok = ok && plainGood(name, c)
		reflect.ValueOf(&rest).Elem().FieldByName(name).SetZero()
	}
	return ok && plainId(c.Id) && text(rest) == text(api.Command{Kind: c.Kind, Id: c.Id})
}

// text is all that something holds; two that mean the same have the same text.
func text(x any) string { return fmt.Sprintf("%+v", x) }

// piece is a number of a command's bytes, or bytes that stand behind their number.
type piece struct {
	number uint64
	raw    string
	isRaw  bool
}

func (p piece) bytes() []byte {
	if p.isRaw {
		return []byte(p.raw)
	}
	return binary.AppendUvarint(nil, p.number)
}

func numberPieces(numbers ...int) []piece {
	var out []piece
	for _, n := range numbers {
		out = append(out, piece{number: uint64(n)})
	}
	return out
}

func textPieces(s string) []piece {
	return []piece{{number: uint64(len(s))}, {raw: s, isRaw: true}}
}

func idPieces(id api.Id) []piece { return numberPieces(id.Node, id.Boot, id.Seq) }

// pieces are those of any command's bytes, in form or not.
func pieces(c api.Command) []piece {
	return slices.Concat(
		numberPieces(c.Kind), idPieces(c.Id), textPieces(c.Bucket), textPieces(c.Key), idPieces(c.Upload),
		idPieces(c.Piece.Blob), numberPieces(c.Piece.Size), textPieces(c.Piece.Etag),
		numberPieces(c.Part, len(c.Parts)), numberPieces(c.Parts...), numberPieces(c.Time, c.Days))
}

func joined(all []piece) []byte {
	var out []byte
	for _, p := range all {
		out = append(out, p.bytes()...)
	}
	return out
}

// plainPut is any command's bytes, in form or not.
func plainPut(c api.Command) []byte { return joined(pieces(c)) }

// plainLedger is the bytes of these commands' bytes, not sealed yet.
func plainLedger(number int, all ...[]byte) []byte {
	out := numberPieces(number)
	for _, b := range all {
		out = append(out, textPieces(string(b))...)
	}
	return joined(out)
}

// plainSealed is bytes with the other implementation's sum behind.
func plainSealed(b []byte) []byte {
	h := fnv.New32a()
	h.Write(b)
	return h.Sum(bytes.Clone(b))
}

func plainWrite(ledger []api.Command) []byte {
	var all [][]byte
	for _, c := range ledger {
		all = append(all, plainPut(c))
	}
	return plainSealed(plainLedger(len(all), all...))
}

var errShort = errors.New("the bytes end too early")

// loose reads numbers of any length, and bytes as many as are there.
type loose struct {
	left []byte
	err  error
}

func (l *loose) num() int {
	n, size := binary.Uvarint(l.left)
	if size <= 0 {
		l.left, l.err = nil, errShort
		return 0
	}
	l.left = l.left[size:]
	return int(n)
}

func (l *loose) piece() []byte {
	n := l.num()
	if n < 0 || n > len(l.left) {
		l.left, l.err = nil, errShort
		return nil
	}
	out := l.left[:n]
	l.left = l.left[n:]
	return out
}

func (l *loose) id() (id api.Id) {
	for _, n := range []*int{&id.Node, &id.Boot, &id.Seq} {
		*n = l.num()
	}
	return id
}

// plainGet reads loosely: what was written otherwise than it is told isn't the same when it is written again.
func plainGet(b []byte) (api.Command, error) {
	l := &loose{left: b}
	c := api.Command{}
	c.Kind, c.Id = l.num(), l.id()
	c.Bucket, c.Key = string(l.piece()), string(l.piece())
	c.Upload, c.Piece.Blob = l.id(), l.id()
	c.Piece.Size, c.Piece.Etag = l.num(), string(l.piece())
	c.Part = l.num()
	for n := l.num(); n > 0 && l.err == nil; n-- {
		c.Parts = append(c.Parts, l.num())
	}
	c.Time, c.Days = l.num(), l.num()
	if l.err != nil || !plainForm(c) || !bytes.Equal(plainPut(c), b) {
		return api.Command{}, api.ErrBytes
	}
	return c, nil
}

func plainRead(b []byte) ([]api.Command, error) {
	if len(b) < 4 {
		return nil, api.ErrBytes
	}
	if !bytes.Equal(plainSealed(b[:len(b)-4]), b) {
		return nil, api.ErrDigest
	}
	l := &loose{left: b[:len(b)-4]}
	var out []api.Command
	for n := l.num(); n > 0 && l.err == nil; n-- {
		c, err := plainGet(l.piece())
		if err != nil {
			return nil, err
		}
		out = append(out, c)
	}
	if l.err != nil || len(out) > 4096 || !bytes.Equal(plainWrite(out), b) {
		return nil, api.ErrBytes
	}
	return out, nil
}

// getsAsPlain asks that both read the same of the bytes, and that what is taken is written as it was; it tells whether it is.
func getsAsPlain(t *testing.T, b []byte) bool {
	t.Helper()
	got, err := Get(b)
	want, fault := plainGet(b)
	if text(got) != text(want) || err != fault {
		t.Fatalf("Get of %x: %+v %v in the place of %+v %v", b, got, err, want, fault)
	}
	if err != nil {
		return false
	}
	if again, err := Put(got); !bytes.Equal(again, b) || err != nil {
		t.Fatalf("Put of what Get took of %x: %x %v", b, again, err)
	}
	return true
}

// readsAsPlain asks the same of a ledger's bytes.
func readsAsPlain(t *testing.T, b []byte) bool {
	t.Helper()
	got, err := Read(b)
	want, fault := plainRead(b)
	if text(got) != text(want) || err != fault {
		t.Fatalf("Read of %x: %+v %v in the place of %+v %v", b, got, err, want, fault)
	}
	if err != nil {
		return false
	}
	if again, err := Write(got); !bytes.Equal(again, b) || err != nil {
		t.Fatalf("Write of what Read took of %x: %x %v", b, again, err)
	}
	return true
}
