package command

import (
	"bollard/api"
	"bytes"
	"math/rand/v2"
	"reflect"
	"slices"
	"strings"
	"testing"
)

// source gives the same numbers on every run.
func source() *rand.Rand { return rand.New(rand.NewPCG(10, 4096)) }

const (
	maxTime = 1099511627776
	// helloEtag is the etag of "hello".
	helloEtag = "2cf24dba5fb0a30e26e83b2ac5b9e29e1b161e5c1fa7425e73043362938b9824"
)

func idOf(node, boot, seq int) api.Id { return api.Id{Node: node, Boot: boot, Seq: seq} }

// numbersTo are the numbers from 1 on.
func numbersTo(n int) []int {
	var out []int
	for i := range n {
		out = append(out, i+1)
	}
	return out
}

// fulls are commands with something good in each field: the least, some, and the most.
func fulls() []api.Command {
	most := idOf(15, maxTime, maxTime)
	return []api.Command{
		{Bucket: "aaa", Key: " ", Piece: api.Piece{Etag: strings.Repeat("0", 64)}, Part: 1, Parts: []int{1}},
		{
			Id: idOf(1, 2, 3), Bucket: "a-b.9", Key: "key/ of~", Upload: idOf(4, 5, 600),
			Piece: api.Piece{Blob: idOf(1, 2, 3), Size: 700, Etag: helloEtag},
			Part:  8, Parts: []int{2, 9, 10}, Time: 1100, Days: 12,
		},
		{
			Id: most, Bucket: strings.Repeat("z", 63), Key: strings.Repeat("~", 200), Upload: most,
			Piece: api.Piece{Blob: most, Size: 1024, Etag: strings.Repeat("f", 64)},
			Part:  16, Parts: numbersTo(16), Time: maxTime, Days: maxTime,
		},
	}
}

// only is the command of that kind, with those fields of the full one that the kind has.
func only(kind int, full api.Command) api.Command {
	has, _ := plainFields(kind)
	out := api.Command{Kind: kind, Id: full.Id}
	for _, name := range has {
		reflect.ValueOf(&out).Elem().FieldByName(name).Set(reflect.ValueOf(full).FieldByName(name))
	}
	out.Parts = slices.Clone(out.Parts)
	return out
}

// samples are commands in form: of each kind the least, some and the most.
func samples() []api.Command {
	var out []api.Command
	for kind := 1; kind <= 11; kind++ {
		for _, full := range fulls() {
			out = append(out, only(kind, full))
		}
	}
	return out
}

// middles are commands in form, one of each kind, of few bytes but for the etags.
func middles() []api.Command {
	var out []api.Command
	for kind := 1; kind <= 11; kind++ {
		out = append(out, only(kind, fulls()[1]))
	}
	return out
}

// drawnNumber is one from least to most, both ends often.
func drawnNumber(r *rand.Rand, least, most int) int {
	switch r.IntN(4) {
	case 0:
		return least
	case 1:
		return most
	case 2:
		return least + r.IntN(most-least+1)>>r.IntN(41)
	}
	return least + r.IntN(most-least+1)
}

func drawnText(r *rand.Rand, size int, letters string) string {
	out := make([]byte, size)
	for i := range out {
		out[i] = letters[r.IntN(len(letters))]
	}
	return string(out)
}

func drawnId(r *rand.Rand) api.Id {
	return idOf(drawnNumber(r, 0, 15), drawnNumber(r, 0, maxTime), drawnNumber(r, 0, maxTime))
}

func drawnBucket(r *rand.Rand) string {
	ends := "abcdefghijklmnopqrstuvwxyz0123456789"
	return drawnText(r, 1, ends) + drawnText(r, drawnNumber(r, 1, 61), ends+"-.") + drawnText(r, 1, ends)
}

func drawnKey(r *rand.Rand) string {
	out := make([]byte, drawnNumber(r, 1, 200))
	for i := range out {
		out[i] = byte(32 + r.IntN(95))
	}
	return string(out)
}

func drawnParts(r *rand.Rand) []int {
	out := r.Perm(16)[:drawnNumber(r, 1, 16)]
	for i := range out {
		out[i]++
	}
	slices.Sort(out)
	return out
}

// drawn is any command in form.
func drawn(r *rand.Rand) api.Command {
	id := drawnId(r)
	return only(1+r.IntN(11), api.Command{
		Id: id, Bucket: drawnBucket(r), Key: drawnKey(r), Upload: drawnId(r),
		Piece: api.Piece{Blob: id, Size: drawnNumber(r, 0, 1024), Etag: drawnText(r, 64, "0123456789abcdef")},
		Part:  drawnNumber(r, 1, 16), Parts: drawnParts(r), Time: drawnNumber(r, 0, maxTime), Days: drawnNumber(r, 0, maxTime),
	})
}

func drawnLedger(r *rand.Rand, n int) []api.Command {
	var out []api.Command
	for range n {
		out = append(out, drawn(r))
	}
	return out
}

// holds tells what was asked, if it doesn't hold.
func holds(t *testing.T, ok bool, what ...any) {
	t.Helper()
	if !ok {
		t.Fatal(what...)
	}
}

func put(t *testing.T, c api.Command) []byte {
	t.Helper()
	b, err := Put(c)
	holds(t, err == nil, "Put of", text(c), err)
	return b
}

func written(t *testing.T, ledger []api.Command) []byte {
	t.Helper()
	b, err := Write(ledger)
	holds(t, err == nil, "Write of", len(ledger), "commands:", err)
	return b
}

// judged asks every call whether the command is in form, as is wanted: Check, Put and Write of it, Get and Read of its bytes.
func judged(t *testing.T, c api.Command, want bool) {
	t.Helper()
	var state, faulty error
	var wantBytes, wantLedger []byte
	back, row := api.Command{}, []api.Command(nil)
	if want {
		wantBytes, wantLedger = plainPut(c), plainWrite([]api.Command{c})
		back, row = c, []api.Command{c}
	} else {
		state, faulty = api.ErrState, api.ErrBytes
	}
	holds(t, plainForm(c) == want, "in form by the other implementation:", text(c))
	err := Check(c)
	holds(t, err == state, "Check of", text(c), err)
	b, err := Put(c)
	holds(t, err == state && bytes.Equal(b, wantBytes), "Put of", text(c), b, err)
	b, err = Write([]api.Command{c})
	holds(t, err == state && bytes.Equal(b, wantLedger), "Write of", text(c), b, err)
	got, err := Get(plainPut(c))
	holds(t, err == faulty && text(got) == text(back), "Get of the bytes of", text(c), text(got), err)
	all, err := Read(plainWrite([]api.Command{c}))
	holds(t, err == faulty && text(all) == text(row), "Read of the bytes of", text(c), text(all), err)
}
