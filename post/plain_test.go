package post

import (
	"bollard/api"
	"bollard/command"
	"bytes"
	"encoding/binary"
	"errors"
	"fmt"
	"hash/fnv"
	"reflect"
	"slices"
	"strings"
	"testing"
)

// The other implementation: fields are asked by their names in the chapter's table, bytes are read loosely and written again. Only the form of a command is asked of package command in both.

func plainTime(n int) bool { return uint64(n) <= 1099511627776 }

func plainNode(n int) bool { return uint64(n) < 16 }

func plainId(id api.Id) bool { return plainNode(id.Node) && plainTime(id.Boot) && plainTime(id.Seq) }

func plainLegal(b api.Ballot) bool {
	return plainTime(b.Round-1) && b.Round <= 1<<40 && plainNode(b.Node)
}

// plainFields is the chapter's table, but for Kind, From, To and Task; false, if there is no such kind.
func plainFields(kind int) ([]string, bool) {
	row, ok := map[int]string{
		1: "Ballot", 2: "Ballot Accepted Ledger", 3: "Ballot Ledger", 4: "Ballot", 5: "Ballot Accepted",
		6: "Blob Frame", 7: "Blob OK", 8: "Blob", 9: "Blob OK Frame",
	}[kind]
	return strings.Fields(row), ok
}

// plainGood tells whether the field of that name is good in the message.
func plainGood(name string, m api.Message) bool {
	switch name {
	case "Ballot":
		return plainLegal(m.Ballot)
	case "Accepted":
		return plainLegal(m.Accepted) || m.Kind == 2 && m.Accepted == api.Ballot{Round: 0, Node: 0}
	case "Ledger":
		isBad := func(c api.Command) bool { return command.Check(c) != nil }
		isEmpty := m.Kind == 2 && m.Accepted.Round == 0
		return len(m.Ledger) < 4097 && (!isEmpty || len(m.Ledger) == 0) && !slices.ContainsFunc(m.Ledger, isBad)
	case "Blob":
		return plainId(m.Blob)
	case "Frame":
		return len(m.Frame) < 4097 && (m.Kind != 9 || m.OK || len(m.Frame) == 0)
	}
	return true
}

func plainZero(v reflect.Value) bool {
	if v.Kind() == reflect.Slice {
		return v.Len() == 0
	}
	return v.IsZero()
}

func plainForm(m api.Message) bool {
	has, ok := plainFields(m.Kind)
	v := reflect.ValueOf(m)
	for i := 4; i < v.NumField(); i++ {
		name := v.Type().Field(i).Name
		if slices.Contains(has, name) {
			ok = ok && plainGood(name, m)
		} else {
			ok = ok && plainZero(v.Field(i))
		}
	}
	return ok && plainNode(m.From) && plainNode(m.To) && plainId(m.Task)
}

// text is all that something holds; two that mean the same have the same text.
func text(x any) string {
	if m, ok := x.(api.Message); ok {
		frame := m.Frame
		m.Frame = nil
		return fmt.Sprintf("%+v %x", m, frame)
	}
	return fmt.Sprintf("%+v", x)
}

// piece is a number of a message's bytes, or bytes that stand behind their number.
type piece struct {
	number uint64
	raw    []byte
	isRaw  bool
}

func (p piece) bytes() []byte {
	if p.isRaw {
		return bytes.Clone(p.raw)
	}
	return binary.AppendUvarint(nil, p.number)
}

func numberPieces(numbers ...int) []piece {
	var out []piece
	for _, n := range numbers {
		out = append(out, piece{number: uint64(n)})
	}
	return out
}

func listPieces(b []byte) []piece {
	return []piece{{number: uint64(len(b))}, {raw: b, isRaw: true}}
}

func idPieces(id api.Id) []piece { return numberPieces(id.Node, id.Boot, id.Seq) }

// The places of pieces of a message's bytes.
const (
	okPlace     = 13
	ledgerPlace = 14
	framePlace  = 16
)

// piecesWith are those of any message's bytes, in form or not, with these bytes in the place of its ledger's.
func piecesWith(m api.Message, ledger []byte) []piece {
	ok := 0
	if m.OK {
		ok = 1
	}
	return slices.Concat(
		numberPieces(m.Kind, m.From, m.To), idPieces(m.Task),
		numberPieces(m.Ballot.Round, m.Ballot.Node, m.Accepted.Round, m.Accepted.Node),
		idPieces(m.Blob), numberPieces(ok), listPieces(ledger), listPieces(m.Frame))
}

func pieces(m api.Message) []piece { return piecesWith(m, plainWrite(m.Ledger)) }

func joined(all []piece) []byte {
	var out []byte
	for _, p := range all {
		out = append(out, p.bytes()...)
	}
	return out
}

// plainSealed is bytes with the other implementation's sum behind.
func plainSealed(b []byte) []byte {
	h := fnv.New32a()
	h.Write(b)
	return h.Sum(bytes.Clone(b))
}

// plainPut is any message's bytes, in form or not.
func plainPut(m api.Message) []byte { return plainSealed(joined(pieces(m))) }

// plainCommand is any command's bytes.
func plainCommand(c api.Command) []byte {
	return joined(slices.Concat(
		numberPieces(c.Kind), idPieces(c.Id), listPieces([]byte(c.Bucket)), listPieces([]byte(c.Key)), idPieces(c.Upload),
		idPieces(c.Piece.Blob), numberPieces(c.Piece.Size), listPieces([]byte(c.Piece.Etag)),
		numberPieces(c.Part, len(c.Parts)), numberPieces(c.Parts...), numberPieces(c.Time, c.Days)))
}

// plainLedger is a ledger's bytes, not sealed yet, with that number ahead of them.
func plainLedger(number int, ledger []api.Command) []byte {
	out := numberPieces(number)
	for _, c := range ledger {
		out = append(out, listPieces(plainCommand(c))...)
	}
	return joined(out)
}

func plainWrite(ledger []api.Command) []byte { return plainSealed(plainLedger(len(ledger), ledger)) }

var errShort = errors.New("the bytes end too early")

// loose reads numbers of any length, and bytes as many as are there.
type loose struct {
	left []byte
	err  error
}

func (l *loose) num() int {
	n, size := binary.Uvarint(l.left)
	if size <= 0 {
		l.left, l.err = nil, errShort
		return 0
	}
	l.left = l.left[size:]
	return int(n)
}

func (l *loose) list() []byte {
	n := l.num()
	if n < 0 || n > len(l.left) {
		l.left, l.err = nil, errShort
		return nil
	}
	out := l.left[:n]
	l.left = l.left[n:]
	return out
}

func (l *loose) id() (id api.Id) {
	for _, n := range []*int{&id.Node, &id.Boot, &id.Seq} {
		*n = l.num()
	}
	return id
}

func (l *loose) command() (c api.Command) {
	c.Kind, c.Id = l.num(), l.id()
	c.Bucket, c.Key = string(l.list()), string(l.list())
	c.Upload, c.Piece.Blob = l.id(), l.id()
	c.Piece.Size, c.Piece.Etag = l.num(), string(l.list())
	c.Part = l.num()
	for n := l.num(); n > 0 && l.err == nil; n-- {
		c.Parts = append(c.Parts, l.num())
	}
	c.Time, c.Days = l.num(), l.num()
	return c
}

// plainRead reads a ledger's bytes loosely; what isn't one isn't the same when it is written again.
func plainRead(b []byte) (out []api.Command) {
	l := &loose{left: b}
	for n := l.num(); n > 0 && l.err == nil; n-- {
		one := &loose{left: l.list()}
		out = append(out, one.command())
	}
	return out
}

// plainGet reads loosely: what was written otherwise than it is told isn't the same when it is written again.
func plainGet(b []byte) (api.Message, error) {
	if len(b) < 4 {
		return api.Message{}, api.ErrBytes
	}
	if !bytes.Equal(plainSealed(b[:len(b)-4]), b) {
		return api.Message{}, api.ErrDigest
	}
	l := &loose{left: b[:len(b)-4]}
	m := api.Message{}
	for _, n := range []*int{&m.Kind, &m.From, &m.To} {
		*n = l.num()
	}
	m.Task = l.id()
	for _, n := range []*int{&m.Ballot.Round, &m.Ballot.Node, &m.Accepted.Round, &m.Accepted.Node} {
		*n = l.num()
	}
	m.Blob, m.OK = l.id(), l.num() == 1
	m.Ledger, m.Frame = plainRead(l.list()), bytes.Clone(l.list())
	if l.err != nil || !plainForm(m) || !bytes.Equal(plainPut(m), b) {
		return api.Message{}, api.ErrBytes
	}
	return m, nil
}

// getsAsPlain asks that both read the same of the bytes, and that what is taken is written as it was; it tells whether it is.
func getsAsPlain(t *testing.T, b []byte) bool {
	t.Helper()
	got, err := Get(b)
	want, fault := plainGet(b)
	if err != fault || text(got) != text(want) {
		t.Fatalf("Get of %x: %s %v in the place of %s %v", b, text(got), err, text(want), fault)
	}
	if err != nil {
		return false
	}
	if again, err := Put(got); !bytes.Equal(again, b) || err != nil {
		t.Fatalf("Put of what Get took of %x: %x %v", b, again, err)
	}
	return true
}
