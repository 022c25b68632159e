package shelf

import (
	"bollard/api"
	"testing"
)

// P8.1, P8.3: a blob's file that is written over, cut, or holds another blob's frame or another shard's is ErrLost; it is listed, stays behind a sweeping, and is mended by a Put.
func TestHarmedFile(t *testing.T) {
	f := put(id123(), 0, 40, "a frame of two blocks, being 40 bytes it")
	bad := map[string][]byte{
		"nothing":        nil,
		"a byte":         {0},
		"rubbish":        []byte("b-1-2-3"),
		"a byte more":    append(f[:len(f):len(f)], 0),
		"twice":          append(f[:len(f):len(f)], f...),
		"another node":   put(api.Id{Node: 2, Boot: 2, Seq: 3}, 0, 40, "ab"),
		"another boot":   put(api.Id{Node: 1, Boot: 3, Seq: 3}, 0, 40, "ab"),
		"another seq":    put(api.Id{Node: 1, Boot: 2, Seq: 4}, 0, 40, "ab"),
		"the id turned":  put(api.Id{Node: 3, Boot: 2, Seq: 1}, 0, 40, "ab"),
		"another shard":  put(id123(), 1, 40, "ab"),
		"the last shard": put(id123(), 15, 40, "ab"),
	}
	for n := range f {
		bad["cut at "+string(rune('a'+n))] = f[:n]
	}
	for what, b := range bad {
		s := newShelf(t, 0)
		good(t, s.Put(f))
		lay(t, s, "b-1-2-3", b)
		refuses(t, s, id123(), api.ErrLost)
		lists(t, s, id123())
		if s.Sweep() != 0 {
			t.Fatal(what, "is swept")
		}
		s.Drive().Crash()
		refuses(t, s, id123(), api.ErrLost)
		good(t, s.Put(f))
		holds(t, s, id123(), f)
	}
}

// P8.3: a file that was written over but not synced is lost, and found again behind a crash.
func TestUnsafeHarm(t *testing.T) {
	s := newShelf(t, 0)
	f := put(id123(), 0, 2, "ab")
	good(t, s.Put(f), s.Drive().Write("b-1-2-3", f[:20]))
	refuses(t, s, id123(), api.ErrLost)
	s.Drive().Crash()
	holds(t, s, id123(), f)
}

// P8.1: every frame of this blob and this node's shard is answered, also one that was laid there by hand.
func TestLaidFrame(t *testing.T) {
	s := newShelf(t, 9)
	good(t, s.Put(put(id123(), 9, 2, "ab")))
	for _, f := range [][]byte{put(id123(), 9, 0, ""), put(id123(), 9, 1024, "ab"), put(id123(), 9, 2, "a text of more than thirty-two bytes")} {
		lay(t, s, "b-1-2-3", f)
		holds(t, s, id123(), f)
		good(t, s.Drive().Rename("b-1-2-3", "b-1-2-4"))
		refuses(t, s, id123(), api.ErrGone)
		refuses(t, s, api.Id{Node: 1, Boot: 2, Seq: 4}, api.ErrLost)
	}
}

// P8.3: each bit of a shelf's files that is turned harms just the blob in whose file it stands, also behind a crash; turned back, the frame is there again.
func TestTurnedBits(t *testing.T) {
	s := newShelf(t, 0)
	other := api.Id{Node: 0, Boot: 9, Seq: 9}
	first, second := put(other, 0, 33, "thirty-three bytes, in two blocks"), put(id123(), 0, 2, "ab")
	good(t, s.Put(first), s.Put(second))
	for bit := range 8 * (len(first) + len(second)) {
		harmed, whole, f := other, id123(), second
		if bit >= 8*len(first) {
			harmed, whole, f = id123(), other, first
		}
		if !s.Drive().Flip(bit) {
			t.Fatal("no bit to turn")
		}
		refuses(t, s, harmed, api.ErrLost)
		holds(t, s, whole, f)
		s.Drive().Crash()
		refuses(t, s, harmed, api.ErrLost)
		lists(t, s, other, id123())
		s.Drive().Flip(bit)
		holds(t, s, other, first)
		holds(t, s, id123(), second)
	}
}

// P8.3: several bits turned, and what Get answers is a frame that was put for this blob, or nothing.
func TestManyTurned(t *testing.T) {
	r := source()
	for range 300 {
		s := newShelf(t, 0)
		frames := map[api.Id][]byte{}
		for i := range 4 {
			blob := api.Id{Node: i, Boot: 1, Seq: r.IntN(3)}
			frames[blob] = put(blob, 0, i, someText(r, r.IntN(80)))
			good(t, s.Put(frames[blob]))
		}
		for range 1 + r.IntN(6) {
			s.Drive().Flip(r.Int())
			for blob, f := range frames {
				got, err := s.Get(blob)
				if err == nil && string(got) != string(f) || err != nil && err != api.ErrLost {
					t.Fatalf("Get of %v: %x %v", blob, got, err)
				}
			}
		}
	}
}

// P8.1, P8.2: a lost drive has nothing, and takes frames anew.
func TestLose(t *testing.T) {
	s := newShelf(t, 0)
	f := put(id123(), 0, 2, "ab")
	for i := range 3 {
		good(t, s.Put(f))
		s.Drive().Lose()
		refuses(t, s, id123(), api.ErrGone)
		lists(t, s)
		if s.Delete(id123()) != api.ErrGone || s.Sweep() != 0 || s.Drive().Lost() != i+1 {
			t.Fatal("a lost drive has something")
		}
		s.Drive().Crash()
		refuses(t, s, id123(), api.ErrGone)
	}
}
