package post

import (
	"bollard/api"
	"bytes"
	"math"
	"math/rand/v2"
	"reflect"
	"slices"
	"strings"
	"testing"
)

// The document's numbers.
const (
	maxTime   = 1099511627776
	maxFrame  = 4096
	maxLedger = 4096
	kinds     = 9
)

// helloEtag is the etag of "hello".
const helloEtag = "2cf24dba5fb0a30e26e83b2ac5b9e29e1b161e5c1fa7425e73043362938b9824"

// source gives the same numbers on every run.
func source() *rand.Rand { return rand.New(rand.NewPCG(15, 4096)) }

func idOf(node, boot, seq int) api.Id { return api.Id{Node: node, Boot: boot, Seq: seq} }

func ballotOf(round, node int) api.Ballot { return api.Ballot{Round: round, Node: node} }

func someBytes(r *rand.Rand, n int) []byte {
	out := make([]byte, n)
	for i := range out {
		out[i] = byte(r.Uint32())
	}
	return out
}

// commands are one in form of each kind.
func commands() []api.Command {
	id := idOf(1, 2, 3)
	piece := api.Piece{Blob: id, Size: 700, Etag: helloEtag}
	return []api.Command{
		{Kind: api.CmdMake, Id: id, Bucket: "aaa", Time: 300},
		{Kind: api.CmdDrop, Id: id, Bucket: "a-b.9"},
		{Kind: api.CmdPut, Id: id, Bucket: "aaa", Key: "a key~", Piece: piece, Time: 9},
		{Kind: api.CmdDelete, Id: id, Bucket: "aaa", Key: " "},
		{Kind: api.CmdStart, Id: idOf(15, maxTime, maxTime), Bucket: strings.Repeat("z", 63), Key: strings.Repeat("~", 200)},
		{Kind: api.CmdPart, Id: id, Bucket: "aaa", Key: "k", Upload: idOf(4, 5, 6), Piece: piece, Part: 16},
		{Kind: api.CmdComplete, Id: id, Bucket: "aaa", Key: "k", Upload: idOf(4, 5, 6), Parts: []int{1, 9, 16}, Time: maxTime},
		{Kind: api.CmdAbort, Id: id, Bucket: "aaa", Key: "k", Upload: idOf(4, 5, 6)},
		{Kind: api.CmdRule, Id: id, Bucket: "aaa", Days: 128},
		{Kind: api.CmdExpire, Id: id, Time: 1},
		{Kind: api.CmdFloor},
	}
}

// rowOf is a ledger of so many commands, those of each kind over and over.
func rowOf(n int) []api.Command {
	all := commands()
	var out []api.Command
	for i := range n {
		c := all[i%len(all)]
		c.Parts = slices.Clone(c.Parts)
		out = append(out, c)
	}
	return out
}

// fulls are messages with something good in each field: the least, some, all unlike one another, and the most (but for the ledger, which would be long).
func fulls() []api.Message {
	most := idOf(15, maxTime, maxTime)
	return []api.Message{
		{Ballot: ballotOf(1, 0), Accepted: ballotOf(1, 0)},
		{
			From: 1, To: 2, Task: idOf(3, 4, 500), Ballot: ballotOf(6, 7), Accepted: ballotOf(8, 9),
			Ledger: commands()[9:], Blob: idOf(10, 1100, 12), OK: true, Frame: []byte("frame"),
		},
		{
			From: 15, To: 15, Task: most, Ballot: ballotOf(maxTime, 15), Accepted: ballotOf(maxTime, 15),
			Ledger: rowOf(22), Blob: most, OK: true, Frame: bytes.Repeat([]byte{255}, maxFrame),
		},
	}
}

// only is the message of that kind, with those fields of the full one that the kind has.
func only(kind int, full api.Message) api.Message {
	has, _ := plainFields(kind)
	out := api.Message{Kind: kind, From: full.From, To: full.To, Task: full.Task}
	for _, name := range has {
		reflect.ValueOf(&out).Elem().FieldByName(name).Set(reflect.ValueOf(full).FieldByName(name))
	}
	out.Frame = bytes.Clone(out.Frame)
	out.Ledger = slices.Clone(out.Ledger)
	return out
}

// samples are messages in form: of each kind the least, some and the most.
func samples() []api.Message {
	var out []api.Message
	for kind := 1; kind <= kinds; kind++ {
		for _, full := range fulls() {
			out = append(out, only(kind, full))
		}
	}
	return out
}

// middles are messages in form of few bytes: one of each kind, and those that may do without what they have.
func middles() []api.Message {
	var out []api.Message
	full := fulls()[1]
	for kind := 1; kind <= kinds; kind++ {
		out = append(out, only(kind, full))
	}
	none, empty, refused := only(2, full), only(2, full), only(9, full)
	none.Accepted, none.Ledger = api.Ballot{}, nil
	empty.Ledger = nil
	refused.OK, refused.Frame = false, nil
	return append(out, none, empty, refused)
}

// edge is a number, and whether it is good.
type edge struct {
	number int
	good   bool
}

// edges are numbers at and beyond both ends of what is good.
func edges(least, most int) []edge {
	var out []edge
	for _, n := range []int{math.MinInt, math.MinInt + 1, -maxTime, -256, -16, -1, 0, 1, 2, 14, 15, 16, 17, 127, 128, 255, 256, 1 << 32, maxTime - 1, maxTime, maxTime + 1, 1 << 62, math.MaxInt - 1, math.MaxInt} {
		out = append(out, edge{n, least <= n && n <= most})
	}
	return out
}

// edgeId is an id, and whether it is good.
type edgeId struct {
	id   api.Id
	good bool
}

// edgeIds have one number at the edges, the others being good.
func edgeIds() []edgeId {
	var out []edgeId
	for _, other := range []int{0, 7, 15} {
		for _, e := range edges(0, 15) {
			out = append(out, edgeId{idOf(e.number, other, other), e.good})
		}
		for _, e := range edges(0, maxTime) {
			out = append(out, edgeId{idOf(other, e.number, other), e.good}, edgeId{idOf(other, other, e.number), e.good})
		}
	}
	return append(out, edgeId{idOf(16, maxTime+1, -1), false}, edgeId{idOf(15, maxTime, maxTime), true})
}

// edgeBallot is a ballot, and whether it is legal.
type edgeBallot struct {
	ballot api.Ballot
	legal  bool
}

// edgeBallots are all with both numbers at the edges: none is among them, and such as are neither none nor legal.
func edgeBallots() []edgeBallot {
	var out []edgeBallot
	for _, round := range edges(1, maxTime) {
		for _, node := range edges(0, 15) {
			out = append(out, edgeBallot{ballotOf(round.number, node.number), round.good && node.good})
		}
	}
	return out
}

// drawnNumber is one from least to most, both ends often.
func drawnNumber(r *rand.Rand, least, most int) int {
	switch r.IntN(4) {
	case 0:
		return least
	case 1:
		return most
	case 2:
		return least + r.IntN(most-least+1)>>r.IntN(41)
	}
	return least + r.IntN(most-least+1)
}

func drawnId(r *rand.Rand) api.Id {
	return idOf(drawnNumber(r, 0, 15), drawnNumber(r, 0, maxTime), drawnNumber(r, 0, maxTime))
}

func drawnBallot(r *rand.Rand) api.Ballot {
	return ballotOf(drawnNumber(r, 1, maxTime), drawnNumber(r, 0, 15))
}

// drawnLedger is a ledger of commands in form.
func drawnLedger(r *rand.Rand, n int) []api.Command {
	all := commands()
	var out []api.Command
	for range n {
		c := all[r.IntN(len(all))]
		c.Id = drawnId(r)
		if c.Piece.Etag != "" {
			c.Piece.Blob = c.Id
		}
		out = append(out, c)
	}
	return out
}

// drawn is any message in form.
func drawn(r *rand.Rand) api.Message {
	m := only(1+r.IntN(kinds), api.Message{
		From: r.IntN(16), To: r.IntN(16), Task: drawnId(r), Ballot: drawnBallot(r), Accepted: drawnBallot(r),
		Ledger: drawnLedger(r, r.IntN(5)), Blob: drawnId(r), OK: r.IntN(2) == 1, Frame: someBytes(r, drawnNumber(r, 0, 300)),
	})
	if m.Kind == 2 && r.IntN(2) == 0 {
		m.Accepted, m.Ledger = api.Ballot{}, nil
	}
	if m.Kind == 9 && !m.OK {
		m.Frame = nil
	}
	return m
}

// holds tells what was asked, if it doesn't hold.
func holds(t *testing.T, ok bool, what ...any) {
	t.Helper()
	if !ok {
		t.Fatal(what...)
	}
}

func put(t *testing.T, m api.Message) []byte {
	t.Helper()
	b, err := Put(m)
	holds(t, err == nil, "Put of", text(m), err)
	return b
}

// getRefuses asks that Get refuses the bytes with that error, and answers nothing beside it.
func getRefuses(t *testing.T, b []byte, want error) {
	t.Helper()
	got, err := Get(b)
	if err != want || text(got) != text(api.Message{}) {
		t.Fatalf("Get of %d bytes: %s, %v in the place of %v", len(b), text(got), err, want)
	}
}

// judged asks every call whether the message is in form, as is wanted: Check and Put of it, and Get of its bytes.
func judged(t *testing.T, m api.Message, want bool) {
	t.Helper()
	plain := plainPut(m)
	var state, faulty error
	wantBytes, back := plain, m
	if !want {
		state, faulty = api.ErrState, api.ErrBytes
		wantBytes, back = nil, api.Message{}
	}
	if plainForm(m) != want {
		t.Fatal("in form by the other implementation:", !want, text(m))
	}
	if err := Check(m); err != state {
		t.Fatal("Check of", text(m), err)
	}
	if b, err := Put(m); err != state || !bytes.Equal(b, wantBytes) {
		t.Fatal("Put of", text(m), b, err)
	}
	if got, err := Get(plain); err != faulty || text(got) != text(back) {
		t.Fatal("Get of the bytes of", text(m), text(got), err)
	}
}
