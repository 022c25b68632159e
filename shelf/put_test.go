package shelf

import (
	"bollard/api"
	"bollard/frame"
	"fmt"
	"math/rand/v2"
	"testing"
)

// refusesPut asks that Put answers the error, and that nothing is changed by it, behind a crash neither.
func refusesPut(t *testing.T, s *Shelf, f []byte, want error) {
	t.Helper()
	before := told(t, s, s.List())
	if err := s.Put(f); err != want {
		t.Fatalf("Put of %x: %v, want %v", f[:min(len(f), 60)], err, want)
	}
	if after := told(t, s, s.List()); after != before {
		t.Fatalf("a Put that is refused changes the shelf:\n%s\nto\n%s", before, after)
	}
}

func someText(r *rand.Rand, n int) string {
	out := make([]byte, n)
	for i := range out {
		out[i] = byte(r.Uint32())
	}
	return string(out)
}

// P8.1, P8.2: frames of shards of every size are taken, and there behind crashes.
func TestPutSizes(t *testing.T) {
	r := source()
	s := newShelf(t, 15)
	for size := range api.MaxBody + 1 {
		if size > 100 && size%31 > 2 && size < 1020 {
			continue
		}
		blob := api.Id{Node: size % 16, Boot: size, Seq: api.MaxTime - size}
		f := put(blob, 15, size, someText(r, size))
		good(t, s.Put(f))
		holds(t, s, blob, f)
		s.Drive().Crash()
		holds(t, s, blob, f)
		s.Drive().Crash()
		holds(t, s, blob, f)
	}
}

// P8.1: each shelf takes just the shard with its node's number, whatever the blob's own node is.
func TestPutShards(t *testing.T) {
	for node := range api.MaxWidth {
		s := newShelf(t, node)
		for shard := range api.MaxWidth {
			for _, owner := range []int{0, node, shard, 15} {
				blob := api.Id{Node: owner, Boot: shard, Seq: 7}
				f := put(blob, shard, 3, "xyz")
				if shard != node {
					refusesPut(t, s, f, api.ErrNumber)
					refuses(t, s, blob, api.ErrGone)
					continue
				}
				good(t, s.Put(f))
				holds(t, s, blob, f)
			}
		}
	}
}

// P8.1, P8.2: a second frame of a blob takes the first one's place, be it longer, shorter or the same, and outlasts a crash.
func TestPutAgain(t *testing.T) {
	s := newShelf(t, 0)
	for i, text := range []string{"ab", "cd", "", "a longer text than one block of a frame can hold, in two of them", "ab", "ab"} {
		f := put(id123(), 0, 100+i, text)
		good(t, s.Put(f))
		holds(t, s, id123(), f)
		files(t, s, "b-1-2-3")
		s.Drive().Crash()
		holds(t, s, id123(), f)
		files(t, s, "b-1-2-3")
	}
}

// P8.1, P8.2: what layer 6 refuses is refused, with its error; an older frame of the blob stays as it was.
func TestPutNoFrame(t *testing.T) {
	s := newShelf(t, 0)
	f := put(id123(), 0, 90, "an older frame of the blob, which is to stay as it was: 90 bytes")
	newer := put(id123(), 0, 40, "a newer frame of the blob, of two blocks")
	for range 2 {
		refusesPut(t, s, nil, api.ErrBytes)
		refusesPut(t, s, []byte{}, api.ErrBytes)
		refusesPut(t, s, []byte("b-1-2-3"), api.ErrBytes)
		refusesPut(t, s, append(newer[:len(newer):len(newer)], 0), api.ErrBytes)
		for n := range newer {
			refusesPut(t, s, newer[:n], api.ErrBytes)
		}
		for bit := range 8 * len(newer) {
			changed := []byte(string(newer))
			changed[bit/8] ^= 1 << (bit % 8)
			_, _, want := frame.Get(changed)
			if want != api.ErrDigest && (want != api.ErrBytes || bit >= 8) {
				t.Fatal("a frame with a bit turned:", bit, want)
			}
			refusesPut(t, s, changed, want)
		}
		good(t, s.Put(f))
		s.Drive().Crash()
		holds(t, s, id123(), f)
	}
	good(t, s.Put(newer))
	holds(t, s, id123(), newer)
}

// P8.1: which error comes first, where two hold: what is no frame has no stamp, so ErrBytes and ErrDigest of the frame stand ahead of its shard's number; fullness comes last.
func TestPutFirstError(t *testing.T) {
	full, crowd, both := newShelf(t, 0), crowded(t, 0), crowded(t, 0)
	full.Drive().Fill(true)
	both.Drive().Fill(true)
	own, other := put(id123(), 0, 2, "ab"), put(id123(), 1, 2, "ab")
	for i, s := range []*Shelf{newShelf(t, 0), full, crowd, both} {
		for _, f := range [][]byte{own, other} {
			changed := []byte(string(f))
			changed[12] ^= 1
			refusesPut(t, s, changed, api.ErrDigest)
			refusesPut(t, s, f[:45], api.ErrBytes)
		}
		refusesPut(t, s, other, api.ErrNumber)
		if i > 0 {
			refusesPut(t, s, own, api.ErrFull)
		}
	}
}

// P8.2: a stage that a crash left behind, whole or in part, safe or not, is written over by the next Put of its blob, and by no other.
func TestPutOverStage(t *testing.T) {
	f, other := put(id123(), 0, 2, "ab"), put(api.Id{Node: 4}, 0, 1, "c")
	for _, old := range [][]byte{nil, f[:20], f, other, []byte("rubbish"), make([]byte, 3000)} {
		for _, safe := range []bool{false, true} {
			s := newShelf(t, 0)
			good(t, s.Drive().Write("t-1-2-3", old))
			if safe {
				good(t, s.Drive().Sync("t-1-2-3"))
			}
			refuses(t, s, id123(), api.ErrGone)
			lists(t, s)
			good(t, s.Put(other))
			files(t, s, "b-4-0-0", "t-1-2-3")
			good(t, s.Put(f))
			files(t, s, "b-1-2-3", "b-4-0-0")
			s.Drive().Crash()
			holds(t, s, id123(), f)
			holds(t, s, api.Id{Node: 4}, other)
		}
	}
}

// P8.2: what was put is there behind a crash until it is deleted: other blobs' frames, refused ones, deletings and sweepings leave it.
func TestPutStays(t *testing.T) {
	r := source()
	s := newShelf(t, 0)
	frames := map[api.Id][]byte{}
	for i := range 400 {
		blob := api.Id{Node: r.IntN(3), Boot: r.IntN(5), Seq: r.IntN(5)}
		switch r.IntN(6) {
		case 0:
			good(t, s.Drive().Write(fmt.Sprint("t-", i), nil))
			s.Sweep()
		case 1:
			if s.Delete(blob) == nil {
				delete(frames, blob)
			}
		case 2:
			refusesPut(t, s, put(blob, 1+r.IntN(15), 0, "other"), api.ErrNumber)
		default:
			frames[blob] = put(blob, 0, i, someText(r, r.IntN(70)))
			good(t, s.Put(frames[blob]))
		}
		s.Drive().Crash()
		for blob, f := range frames {
			holds(t, s, blob, f)
		}
		if len(s.List()) != len(frames) {
			t.Fatal("List:", s.List())
		}
	}
}
