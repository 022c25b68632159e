package command

import (
	"bollard/api"
	"bytes"
	"encoding/hex"
	"strings"
	"testing"
)

// hand is bytes as digits, with spaces between them.
func hand(t *testing.T, digits string) []byte {
	t.Helper()
	b, err := hex.DecodeString(strings.ReplaceAll(digits, " ", ""))
	holds(t, err == nil, err)
	return b
}

// byHand is a command, and its bytes as they are written by hand.
type byHand struct {
	command api.Command
	digits  string
}

// shortHand are commands of few bytes.
func shortHand() []byHand {
	id := idOf(1, 2, 3)
	return []byHand{
		{api.Command{Kind: api.CmdMake, Id: idOf(0, 0, 1), Bucket: "aaa"}, "01 00 00 01 03616161 00 000000 000000 00 00 00 00 00 00"},
		{api.Command{Kind: api.CmdMake, Id: idOf(0, 0, 1), Bucket: "a-1", Time: 300}, "01 00 00 01 03612d31 00 000000 000000 00 00 00 00 ac02 00"},
		{api.Command{Kind: api.CmdDrop, Id: id, Bucket: "b.9z"}, "02 01 02 03 04622e397a 00 000000 000000 00 00 00 00 00 00"},
		{api.Command{Kind: api.CmdDelete, Id: id, Bucket: "aaa", Key: " ~"}, "04 01 02 03 03616161 02207e 000000 000000 00 00 00 00 00 00"},
		{api.Command{Kind: api.CmdStart, Id: idOf(15, 127, 128), Bucket: "aaa", Key: "k"}, "05 0f 7f 8001 03616161 016b 000000 000000 00 00 00 00 00 00"},
		{
			api.Command{Kind: api.CmdComplete, Id: id, Bucket: "aaa", Key: "k", Upload: idOf(4, 5, 6), Parts: []int{1, 2, 16}, Time: 7},
			"07 01 02 03 03616161 016b 040506 000000 00 00 00 03 01 02 10 07 00",
		},
		{api.Command{Kind: api.CmdAbort, Id: id, Bucket: "aaa", Key: "k", Upload: idOf(4, 5, 6)}, "08 01 02 03 03616161 016b 040506 000000 00 00 00 00 00 00"},
		{api.Command{Kind: api.CmdRule, Id: id, Bucket: "aaa", Days: 128}, "09 01 02 03 03616161 00 000000 000000 00 00 00 00 00 8001"},
		{api.Command{Kind: api.CmdExpire, Id: id, Time: maxTime}, "0a 01 02 03 00 00 000000 000000 00 00 00 00 808080808020 00"},
		{api.Command{Kind: api.CmdFloor, Id: id}, "0b 01 02 03 00 00 000000 000000 00 00 00 00 00 00"},
		{api.Command{Kind: api.CmdFloor, Id: idOf(15, maxTime, maxTime-1)}, "0b 0f 808080808020 ffffffffff1f 00 00 000000 000000 00 00 00 00 00 00"},
	}
}

// longHand are commands with an etag, or as many bytes as there can be.
func longHand() []byHand {
	etag := strings.Repeat("30316566", 16)
	most := "0f 808080808020 808080808020"
	piece := api.Piece{Blob: idOf(1, 2, 3), Size: 1023, Etag: strings.Repeat("01ef", 16)}
	parts := numbersTo(16)
	return []byHand{
		{
			api.Command{Kind: api.CmdPut, Id: idOf(1, 2, 3), Bucket: "aaa", Key: "k", Piece: piece, Time: 9},
			"03 01 02 03 03616161 016b 000000 01 02 03 ff07 40" + etag + "00 00 09 00",
		},
		{
			api.Command{Kind: api.CmdPart, Id: idOf(1, 2, 3), Bucket: "aaa", Key: "k", Upload: idOf(4, 5, 6), Piece: piece, Part: 16},
			"06 01 02 03 03616161 016b 04 05 06 01 02 03 ff07 40" + etag + "10 00 00 00",
		},
		{
			api.Command{
				Kind: api.CmdComplete, Id: idOf(15, maxTime, maxTime), Bucket: strings.Repeat("a", 63), Key: strings.Repeat("k", 200),
				Upload: idOf(15, maxTime, maxTime), Parts: parts, Time: maxTime,
			},
			"07" + most + "3f" + strings.Repeat("61", 63) + "c801" + strings.Repeat("6b", 200) + most + "000000 00 00 00 10 0102030405060708090a0b0c0d0e0f10 808080808020 00",
		},
	}
}

func allHand() []byHand { return append(shortHand(), longHand()...) }

// P10.1: commands' bytes as they are written by hand, both ways.
func TestBytesByHand(t *testing.T) {
	for _, one := range allHand() {
		want := hand(t, one.digits)
		got, err := Put(one.command)
		holds(t, err == nil && bytes.Equal(got, want), "Put of", text(one.command), hex.EncodeToString(got), err)
		back, err := Get(want)
		holds(t, err == nil && text(back) == text(one.command), "Get of", one.digits, text(back), err)
	}
	if b := put(t, api.Command{Kind: api.CmdFloor, Id: idOf(1, 2, 3)}); len(b) != 18 {
		t.Error("the chapter's example has 18 bytes:", len(b))
	}
}

// P10.1: a ledger's bytes as they are written by hand, both ways; their sums are those of the chapter of layer 5.
func TestLedgerByHand(t *testing.T) {
	floor := api.Command{Kind: api.CmdFloor, Id: idOf(1, 2, 3)}
	digits := "0b 01 02 03 00 00 000000 000000 00 00 00 00 00 00"
	for _, one := range []struct {
		ledger []api.Command
		digits string
	}{
		{nil, "00"},
		{[]api.Command{floor}, "01 12" + digits},
		{[]api.Command{floor, {Kind: api.CmdDrop, Id: idOf(1, 2, 4), Bucket: "aaa"}}, "02 12" + digits + "15 02 01 02 04 03616161 00 000000 000000 00 00 00 00 00 00"},
	} {
		want := plainSealed(hand(t, one.digits))
		got, err := Write(one.ledger)
		holds(t, err == nil && bytes.Equal(got, want), "Write of", text(one.ledger), hex.EncodeToString(got), err)
		back, err := Read(want)
		holds(t, err == nil && text(back) == text(one.ledger), "Read of", one.digits, text(back), err)
	}
	// The sum of one 0 was reckoned by hand: 2166136261 times 16777619, modulo 2^32.
	if got := written(t, nil); !bytes.Equal(got, hand(t, "00 050c5d1f")) {
		t.Error("no command:", hex.EncodeToString(got))
	}
}

// P10.1: Put is held against the other implementation, whose bytes are held against those by hand.
func TestPutAsPlain(t *testing.T) {
	for _, one := range allHand() {
		holds(t, bytes.Equal(plainPut(one.command), hand(t, one.digits)), "the other implementation's bytes of", text(one.command))
	}
	for _, c := range samples() {
		holds(t, bytes.Equal(put(t, c), plainPut(c)), "Put of", text(c))
	}
}

// P10.1: each field has its place: commands that differ in one field have other bytes.
func TestBytesDiffer(t *testing.T) {
	seen := map[string]string{}
	for _, sample := range samples() {
		for _, one := range smallChanges() {
			c := sample
			one.set(&c)
			b, err := Put(c)
			if err != nil {
				continue
			}
			if other, ok := seen[string(b)]; ok && other != text(c) {
				t.Fatal("the same bytes:", text(c), other)
			}
			seen[string(b)] = text(c)
		}
	}
}
