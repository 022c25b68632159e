package shelf

import (
	"bollard/api"
	"fmt"
	"testing"
)

// asked are the blobs about which shelves are asked behind every row.
func asked() []api.Id {
	return []api.Id{id123(), {Node: 10, Boot: 2, Seq: 3}, {}, {Node: 16}, {Seq: -1}}
}

// tryRow does the steps of that row to a new pair, and asks that both end alike, also behind a crash.
func tryRow(t *testing.T, row []step) {
	t.Helper()
	p := newPair(t, 0)
	for _, s := range row {
		p.do(t, s)
	}
	p.same(t, row, asked())
	p.do(t, step{call: "crash"})
	p.same(t, fmt.Sprint(row, " and a crash"), asked())
}

// everyRow tries each row that begins so and has at most left steps more.
func everyRow(t *testing.T, calls, row []step, left int) {
	t.Helper()
	tryRow(t, row)
	if left == 0 {
		return
	}
	for _, s := range calls {
		everyRow(t, calls, append(row[:len(row):len(row)], s), left-1)
	}
}

// P8.1, P8.2: the shelf's own calls in every order, with crashes, turned bits, losses and fullness between them, against another implementation.
func TestEveryOrder(t *testing.T) {
	calls := []step{
		{call: "Put", bytes: put(id123(), 0, 2, "ab")}, {call: "Put", bytes: put(id123(), 0, 2, "other")}, {call: "Put", bytes: put(api.Id{Node: 10, Boot: 2, Seq: 3}, 0, 0, "")},
		{call: "Delete", blob: id123()}, {call: "Sweep"},
		{call: "crash"}, {call: "flip", n: -9}, {call: "lose"}, {call: "fill", n: 1}, {call: "fill"},
	}
	everyRow(t, calls, nil, 4)
}

// P8.1, P8.2: the same where Put's own steps are done one by one, so that a crash or any other call comes between them.
func TestEveryStage(t *testing.T) {
	f, other := put(id123(), 0, 2, "ab"), put(id123(), 0, 2, "other")
	calls := []step{
		{call: "write", name: "t-1-2-3", bytes: f}, {call: "sync", name: "t-1-2-3"}, {call: "rename", name: "t-1-2-3", to: "b-1-2-3"},
		{call: "Put", bytes: other}, {call: "Delete", blob: id123()}, {call: "Sweep"}, {call: "crash"}, {call: "fill", n: 1}, {call: "flip", n: 77},
	}
	everyRow(t, calls, nil, 4)
}

// P8.1, P8.2, P8.3: the same where the blob's file is written over, given other names, and holds another blob's frame.
func TestEveryHarm(t *testing.T) {
	f, other := put(id123(), 0, 2, "ab"), put(api.Id{Node: 10, Boot: 2, Seq: 3}, 0, 1, "c")
	calls := []step{
		{call: "Put", bytes: f}, {call: "Put", bytes: other}, {call: "Put", bytes: f[:40]}, {call: "Put", bytes: put(id123(), 1, 2, "ab")},
		{call: "write", name: "b-1-2-3", bytes: other}, {call: "sync", name: "b-1-2-3"},
		{call: "rename", name: "b-1-2-3", to: "b-10-2-3"}, {call: "rename", name: "b-10-2-3", to: "b-010-2-3"}, {call: "delete", name: "b-1-2-3"}, {call: "Sweep"},
	}
	everyRow(t, calls, nil, 4)
}

// someStep is a step on few blobs and few names, of which some are not good.
func someStep(p pair, n func(int) int) step {
	blobs := []api.Id{id123(), {Node: 10, Boot: 2, Seq: 3}, {}, {Node: 2}, {Node: 15, Boot: api.MaxTime, Seq: 9}, {Node: 15, Boot: api.MaxTime, Seq: 10}, {Node: 16}, {Boot: -1}, {Seq: api.MaxTime + 1}}
	names := []string{"b-1-2-3", "t-1-2-3", "b-10-2-3", "t-10-2-3", "b-0-0-0", "t-0-0-0", "b-01-2-3", "b-16-0-0", "x", "b-2-0-0", "t-2-0-0"}
	calls := []string{"Put", "Put", "Put", "Put", "Put", "Get", "Has", "Delete", "Delete", "List", "Sweep", "write", "sync", "rename", "delete", "crash", "crash", "flip"}
	rare := []string{"lose", "fill", "fill", "fill"}
	s := step{call: calls[n(len(calls))], blob: blobs[n(len(blobs))], name: names[n(len(names))], to: names[n(len(names))], n: n(2000) - 1000}
	shard := p.plain.node
	if n(8) == 0 {
		shard = n(16)
	}
	s.bytes = put(blobs[n(6)], shard, n(1025), "some bytes of a shard, of more than one block"[:n(46)])
	if n(8) == 0 {
		s.bytes[n(len(s.bytes))] ^= byte(n(256))
	}
	if n(12) == 0 {
		s.bytes = s.bytes[:n(len(s.bytes))]
	}
	if n(30) == 0 {
		s.call, s.n = rare[n(len(rare))], n(3)/2
	}
	return s
}

// P8.1, P8.2, P8.3: long rows of all calls on several shelves side by side and on their drives, against another implementation.
func TestManyCalls(t *testing.T) {
	r := source()
	for range 40 {
		shelves := []pair{newPair(t, 0), newPair(t, 0), newPair(t, r.IntN(16))}
		for i := range 250 {
			p := shelves[r.IntN(len(shelves))]
			s := someStep(p, r.IntN)
			p.do(t, s)
			for _, p := range shelves {
				p.same(t, fmt.Sprint(i, " calls, the last ", s), asked())
			}
		}
	}
}

// P8.1: long rows of calls on a shelf whose drive has MaxFiles files most of the time.
func TestManyFiles(t *testing.T) {
	r := source()
	p := newPair(t, 7)
	most := 0
	for i := range 6000 {
		blob := api.Id{Node: r.IntN(16), Seq: r.IntN(50)}
		s := step{call: "Put", blob: blob, bytes: put(blob, 7, i%1025, fmt.Sprint(i))}
		switch r.IntN(12) {
		case 0:
			s.call = "Delete"
		case 1:
			s.call, s.name = "write", plainName("t", blob)
		case 2:
			s.call = "Get"
		case 3:
			if r.IntN(30) == 0 {
				s.call = "Sweep"
			}
		}
		p.do(t, s)
		if len(p.plain.files) == api.MaxFiles {
			most++
		}
		if i%300 == 0 {
			p.same(t, fmt.Sprint(i, " calls"), asked())
			p.do(t, step{call: "crash"})
		}
	}
	p.same(t, "all calls", asked())
	if most < 500 {
		t.Error("the drive has too seldom as many files as it may:", most)
	}
}
