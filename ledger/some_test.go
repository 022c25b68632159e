package ledger

import (
	"bollard/api"
	"bollard/command"
	"crypto/sha256"
	"fmt"
	"math/rand/v2"
	"slices"
	"testing"
)

// source gives the same numbers on every run.
func source() *rand.Rand { return rand.New(rand.NewPCG(12, 4096)) }

// maxLedger and maxTime are the document's numbers. The etags are the digest of "hello", and the etag of an upload whose one piece has that.
const (
	maxLedger    = 4096
	maxTime      = 1099511627776
	helloEtag    = "2cf24dba5fb0a30e26e83b2ac5b9e29e1b161e5c1fa7425e73043362938b9824"
	helloOneEtag = "d7914fe546b684688bb95f4f888a92dfc680603a75f23eb823658031fff766d9-1"
)

func idOf(node, boot, seq int) api.Id { return api.Id{Node: node, Boot: boot, Seq: seq} }

// holds tells what was asked, if it doesn't hold.
func holds(t *testing.T, ok bool, what ...any) {
	t.Helper()
	if !ok {
		t.Fatal(what...)
	}
}

func etagOf(body string) string { return fmt.Sprintf("%x", sha256.Sum256([]byte(body))) }

func pieceOf(blob api.Id, body string) api.Piece {
	return api.Piece{Blob: blob, Size: len(body), Etag: etagOf(body)}
}

func makes(id api.Id, bucket string, time int) api.Command {
	return api.Command{Kind: api.CmdMake, Id: id, Bucket: bucket, Time: time}
}

func drops(id api.Id, bucket string) api.Command {
	return api.Command{Kind: api.CmdDrop, Id: id, Bucket: bucket}
}

func puts(id api.Id, bucket, key, body string, time int) api.Command {
	return api.Command{Kind: api.CmdPut, Id: id, Bucket: bucket, Key: key, Piece: pieceOf(id, body), Time: time}
}

func deletes(id api.Id, bucket, key string) api.Command {
	return api.Command{Kind: api.CmdDelete, Id: id, Bucket: bucket, Key: key}
}

func starts(id api.Id, bucket, key string) api.Command {
	return api.Command{Kind: api.CmdStart, Id: id, Bucket: bucket, Key: key}
}

func parts(id api.Id, bucket, key string, upload api.Id, number int, body string) api.Command {
	return api.Command{Kind: api.CmdPart, Id: id, Bucket: bucket, Key: key, Upload: upload, Part: number, Piece: pieceOf(id, body)}
}

func completes(id api.Id, bucket, key string, upload api.Id, time int, numbers ...int) api.Command {
	return api.Command{Kind: api.CmdComplete, Id: id, Bucket: bucket, Key: key, Upload: upload, Parts: numbers, Time: time}
}

func aborts(id api.Id, bucket, key string, upload api.Id) api.Command {
	return api.Command{Kind: api.CmdAbort, Id: id, Bucket: bucket, Key: key, Upload: upload}
}

func rules(id api.Id, bucket string, days int) api.Command {
	return api.Command{Kind: api.CmdRule, Id: id, Bucket: bucket, Days: days}
}

func expires(id api.Id, time int) api.Command {
	return api.Command{Kind: api.CmdExpire, Id: id, Time: time}
}

func floors(id api.Id) api.Command { return api.Command{Kind: api.CmdFloor, Id: id} }

// floorRow is a ledger of that many floors of one node, whose ids have the numbers from 1 on.
func floorRow(n int) []api.Command {
	var out []api.Command
	for i := range n {
		out = append(out, floors(idOf(3, 4, i+1)))
	}
	return out
}

// odd is a command with something in each field, which is in no form, another one for each number.
func odd(n int) api.Command {
	id := func(k int) api.Id { return idOf(n+k, n+k+1, n+k+2) }
	word := fmt.Sprint("text ", n, " of ")
	return api.Command{
		Kind: n%11 + 1, Id: id(10), Bucket: word + "bucket", Key: word + "key", Upload: id(20),
		Piece: api.Piece{Blob: id(30), Size: n + 40, Etag: word + "etag"},
		Part:  n + 50, Parts: []int{n + 60, n + 70, n + 80}, Time: n + 90, Days: n + 100,
	}
}

// oddRow is a ledger of the odd commands from that number on.
func oddRow(from, n int) []api.Command {
	var out []api.Command
	for i := range n {
		out = append(out, odd(from+i))
	}
	return out
}

// told is one command of a story, and what it comes to.
type told struct {
	command api.Command
	outcome api.Outcome
}

func ok(c api.Command, etag string) told { return told{c, api.Outcome{Etag: etag}} }

func no(c api.Command, code int) told { return told{c, api.Outcome{Code: code}} }

// story is a row of commands of each Kind, with what each comes to, worked out by hand.
func story() []told {
	up := idOf(0, 0, 3)
	return []told{
		ok(makes(idOf(0, 0, 1), "aaa", 4), ""),
		no(makes(idOf(0, 0, 2), "aaa", 5), api.CodeExists),
		ok(puts(idOf(1, 0, 1), "aaa", "k", "hello", 6), helloEtag),
		no(puts(idOf(1, 0, 2), "bbb", "k", "hello", 6), api.CodeNoBucket),
		ok(starts(up, "aaa", "big"), ""),
		ok(parts(idOf(2, 0, 1), "aaa", "big", up, 2, "hello"), helloEtag),
		no(completes(idOf(0, 1, 1), "aaa", "big", up, 8, 1), api.CodeNoPart),
		ok(completes(idOf(0, 1, 2), "aaa", "big", up, 9, 2), helloOneEtag),
		no(drops(idOf(2, 1, 0), "aaa"), api.CodeNotEmpty),
		ok(rules(idOf(2, 1, 1), "aaa", 3), ""),
		no(aborts(idOf(2, 1, 2), "aaa", "big", up), api.CodeNoUpload),
		ok(floors(idOf(3, 0, 5)), ""),
		ok(expires(idOf(3, 0, 6), 9), ""),
		ok(deletes(idOf(1, 0, 3), "aaa", "big"), ""),
		ok(drops(idOf(0, 0, 4), "aaa"), ""),
		no(deletes(idOf(1, 0, 4), "aaa", "big"), api.CodeNoBucket),
	}
}

// commandsOf is the story's ledger.
func commandsOf(all []told) []api.Command {
	var out []api.Command
	for _, one := range all {
		out = append(out, one.command)
	}
	return out
}

// storyAt is what the story's first commands come to, worked out by hand.
func storyAt(n int) api.Catalog {
	if n < 1 {
		return api.Catalog{}
	}
	piece := api.Piece{Size: 5, Etag: helloEtag}
	put, big := piece, piece
	put.Blob, big.Blob = idOf(1, 0, 1), idOf(2, 0, 1)
	b := api.Bucket{Name: "aaa", Time: 4}
	if n >= 8 && n < 14 {
		b.Objects = append(b.Objects, api.Object{Key: "big", Size: 5, Etag: helloOneEtag, Time: 9, Pieces: []api.Piece{big}})
	}
	if n >= 3 && n < 13 {
		b.Objects = append(b.Objects, api.Object{Key: "k", Size: 5, Etag: helloEtag, Time: 6, Pieces: []api.Piece{put}})
	}
	if n >= 5 && n < 8 {
		b.Uploads = []api.Upload{{Id: idOf(0, 0, 3), Key: "big"}}
	}
	if n == 6 || n == 7 {
		b.Uploads[0].Parts = []api.Part{{Number: 2, Piece: big}}
	}
	if n >= 10 {
		b.Days = 3
	}
	c := api.Catalog{Buckets: []api.Bucket{b}}
	if n >= 12 {
		c.Floors = []api.Id{idOf(3, 0, 5)}
	}
	if n >= 15 {
		c.Buckets = nil
	}
	return c
}

// inForm asks that every command is in form, so that something is promised of what the ledger comes to.
func inForm(t *testing.T, l []api.Command) {
	t.Helper()
	for _, c := range l {
		holds(t, command.Check(c) == nil, "not in form:", text(c))
	}
}

// put is Put that is to answer no error.
func put(t *testing.T, l []api.Command, c api.Command) ([]api.Command, int) {
	t.Helper()
	m, n, err := Put(l, c)
	holds(t, err == nil, "Put of", text(c), "onto", len(l), ":", err)
	return m, n
}

// goesOn asks of Put that it answers the ledger with the command behind it.
func goesOn(t *testing.T, l []api.Command, c api.Command) []api.Command {
	t.Helper()
	before := text(l) + text(c)
	m, n := put(t, l, c)
	holds(t, n == len(l)+1 && text(m) == text(slices.Concat(l, []api.Command{c})), "Put of", text(c), "onto", len(l), ":", len(m), n)
	holds(t, text(l)+text(c) == before, "Put changes what it is handed:", text(c))
	return m
}

// stays asks of Put that it answers the ledger as it is, and that place.
func stays(t *testing.T, l []api.Command, c api.Command, place int) {
	t.Helper()
	m, n := put(t, l, c)
	holds(t, n == place && text(m) == text(l), "Put of", text(c), "onto", len(l), ":", len(m), n, "in the place of", place)
}

// full asks of Put that it answers ErrFull, and nothing beside it.
func full(t *testing.T, l []api.Command, c api.Command) {
	t.Helper()
	m, n, err := Put(l, c)
	holds(t, err == api.ErrFull && m == nil && n == 0, "Put of", text(c), "onto", len(l), ":", len(m), n, err)
}
