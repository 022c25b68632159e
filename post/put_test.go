package post

import (
	"bollard/api"
	"bytes"
	"encoding/hex"
	"strings"
	"testing"
)

// hand is bytes as digits, with spaces between them.
func hand(t *testing.T, digits string) []byte {
	t.Helper()
	b, err := hex.DecodeString(strings.ReplaceAll(digits, " ", ""))
	holds(t, err == nil, err)
	return b
}

// byHand is a message, and its bytes as they are written by hand; the sums were reckoned apart from the program.
type byHand struct {
	message api.Message
	digits  string
}

const (
	// noLedger is the list of the bytes of a ledger without commands.
	noLedger = " 05 00050c5d1f "
	// floorLedger is that of a ledger whose one command is {Kind CmdFloor, Id 1 2 3}.
	floorLedger = " 18 01 12 0b 01 02 03 00 00 000000 000000 00 00 00 00 00 00 57d5ef15 "
)

func allHand() []byHand {
	task, blob := idOf(3, 4, 5), idOf(10, 11, 12)
	floor := []api.Command{{Kind: api.CmdFloor, Id: idOf(1, 2, 3)}}
	return []byHand{
		{
			api.Message{Kind: api.MsgPrepare, From: 1, To: 2, Task: task, Ballot: ballotOf(6, 7)},
			"01 01 02 03 04 05 06 07 00 00 00 00 00 00" + noLedger + "00 9b73db90",
		},
		{
			api.Message{Kind: api.MsgPromise, From: 1, To: 2, Task: task, Ballot: ballotOf(6, 7)},
			"02 01 02 03 04 05 06 07 00 00 00 00 00 00" + noLedger + "00 8350500d",
		},
		{
			api.Message{Kind: api.MsgPromise, From: 1, To: 2, Task: task, Ballot: ballotOf(6, 7), Accepted: ballotOf(8, 9), Ledger: floor},
			"02 01 02 03 04 05 06 07 08 09 00 00 00 00" + floorLedger + "00 808c0914",
		},
		{
			api.Message{Kind: api.MsgAccept, From: 15, Ballot: ballotOf(1, 0), Ledger: floor},
			"03 0f 00 00 00 00 01 00 00 00 00 00 00 00" + floorLedger + "00 d07c8886",
		},
		{
			api.Message{Kind: api.MsgAccepted, To: 15, Task: idOf(15, maxTime, maxTime), Ballot: ballotOf(maxTime, 15)},
			"04 00 0f 0f 808080808020 808080808020 808080808020 0f 00 00 00 00 00 00" + noLedger + "00 f772051c",
		},
		{
			api.Message{Kind: api.MsgRefused, From: 1, To: 2, Task: idOf(3, 4, 500), Ballot: ballotOf(6, 7), Accepted: ballotOf(8, 9)},
			"05 01 02 03 04 f403 06 07 08 09 00 00 00 00" + noLedger + "00 55d1fb5f",
		},
		{
			api.Message{Kind: api.MsgStore, From: 1, To: 2, Task: task, Blob: idOf(10, 1100, 12), Frame: []byte("frame")},
			"06 01 02 03 04 05 00 00 00 00 0a cc08 0c 00" + noLedger + "05 6672616d65 e8e4678e",
		},
		{
			api.Message{Kind: api.MsgStored, From: 1, To: 2, Task: task, Blob: blob, OK: true},
			"07 01 02 03 04 05 00 00 00 00 0a 0b 0c 01" + noLedger + "00 d8070307",
		},
		{
			api.Message{Kind: api.MsgFetch, From: 1, To: 2, Task: task, Blob: blob},
			"08 01 02 03 04 05 00 00 00 00 0a 0b 0c 00" + noLedger + "00 f66065df",
		},
		{
			api.Message{Kind: api.MsgFetched, From: 1, To: 2, Task: task, Blob: blob, OK: true, Frame: []byte{0, 255, 128}},
			"09 01 02 03 04 05 00 00 00 00 0a 0b 0c 01" + noLedger + "03 00ff80 ae662117",
		},
		{
			api.Message{Kind: api.MsgFetched},
			"09 00 00 00 00 00 00 00 00 00 00 00 00 00" + noLedger + "00 ee3cda28",
		},
	}
}

// P15.1: messages' bytes as they are written by hand, both ways.
func TestBytesByHand(t *testing.T) {
	for _, one := range allHand() {
		want := hand(t, one.digits)
		got, err := Put(one.message)
		holds(t, err == nil && bytes.Equal(got, want), "Put of", text(one.message), hex.EncodeToString(got), err)
		back, err := Get(want)
		holds(t, err == nil && text(back) == text(one.message), "Get of", one.digits, text(back), err)
	}
}

// P15.1: Put is held against the other implementation, whose bytes are held against those by hand.
func TestPutAsPlain(t *testing.T) {
	for _, one := range allHand() {
		holds(t, bytes.Equal(plainPut(one.message), hand(t, one.digits)), "the other implementation's bytes of", text(one.message))
	}
	for _, m := range append(samples(), middles()...) {
		holds(t, bytes.Equal(put(t, m), plainPut(m)), "Put of", text(m))
	}
}

// P15.1: nil and empty lists mean the same.
func TestNoLists(t *testing.T) {
	for _, m := range middles() {
		if len(m.Ledger) > 0 || len(m.Frame) > 0 {
			continue
		}
		want := put(t, m)
		for _, ledger := range [][]api.Command{nil, {}, make([]api.Command, 0, 3)} {
			for _, frame := range [][]byte{nil, {}, make([]byte, 0, 3)} {
				m.Ledger, m.Frame = ledger, frame
				judged(t, m, true)
				holds(t, bytes.Equal(put(t, m), want), "Put of", text(m))
			}
		}
	}
}

// P15.2: unlike messages have unlike bytes.
func TestBytesDiffer(t *testing.T) {
	seen := map[string]string{}
	count := 0
	for _, sample := range append(samples(), middles()...) {
		for _, one := range allChanges() {
			m := sample
			one.set(&m)
			b, err := Put(m)
			if err != nil {
				continue
			}
			other, ok := seen[string(b)]
			if ok && other != text(m) {
				t.Fatal("the same bytes:", text(m), other)
			}
			if !ok {
				count++
			}
			seen[string(b)] = text(m)
		}
	}
	holds(t, count > 1000, "too few messages:", count)
}
