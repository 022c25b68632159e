package shelf

import (
	"bollard/api"
	"bytes"
	"slices"
	"testing"
)

// roomy is the list with spare room behind its length, filled with the byte.
func roomy(list []byte, fill byte) []byte {
	return append(bytes.Clone(list), bytes.Repeat([]byte{fill}, 80)...)[:len(list)]
}

func whole(list []byte) []byte { return list[:cap(list)] }

func overwrite(list []byte, fill byte) {
	for i := range whole(list) {
		whole(list)[i] = fill
	}
}

// Rule 4: Put changes nothing of what it is handed, reads nothing behind it, and keeps none of it, whether it takes it or not.
func TestPutMemory(t *testing.T) {
	own := put(id123(), 0, 70, string(bytes.Repeat([]byte("text"), 17)))
	for _, f := range [][]byte{own, put(id123(), 0, 0, ""), put(id123(), 1, 2, "ab"), own[:20], append([]byte{12}, own[1:]...), nil} {
		for _, full := range []bool{false, true} {
			s := newShelf(t, 0)
			s.Drive().Fill(full)
			list := roomy(f, 7)
			before := bytes.Clone(whole(list))
			err := s.Put(list)
			if !bytes.Equal(whole(list), before) {
				t.Fatal("Put changes what it is handed")
			}
			overwrite(list, 9)
			if err == nil {
				holds(t, s, id123(), f)
				s.Drive().Crash()
				holds(t, s, id123(), f)
			}
			s.Drive().Flip(0)
			s.Sweep()
			if !bytes.Equal(whole(list), bytes.Repeat([]byte{9}, cap(list))) {
				t.Fatal("the shelf changes what Put was handed")
			}
		}
	}
}

// Rule 4: what Get answers shares memory with nothing: not with the file, not with what is safe of it, not with another answer.
func TestGetMemory(t *testing.T) {
	s := newShelf(t, 0)
	f := put(id123(), 0, 70, string(bytes.Repeat([]byte("text"), 17)))
	good(t, s.Put(f))
	first, _ := s.Get(id123())
	second, _ := s.Get(id123())
	if behind := whole(first)[len(first):]; !bytes.Equal(behind, make([]byte, len(behind))) {
		t.Fatal("something is handed out behind an answer")
	}
	overwrite(first, 8)
	if !bytes.Equal(second, f) {
		t.Fatal("two answers of Get share memory")
	}
	holds(t, s, id123(), f)
	s.Drive().Crash()
	holds(t, s, id123(), f)
	s.Drive().Flip(3)
	good(t, s.Put(put(id123(), 0, 1, "x")))
	good(t, s.Delete(id123()))
	s.Drive().Lose()
	if !bytes.Equal(second, f) {
		t.Fatal("what is done to a shelf changes what Get answered")
	}
}

// Rule 4: what List answers is new each time, with nothing behind its length.
func TestListMemory(t *testing.T) {
	s := newShelf(t, 0)
	var want []api.Id
	for i := range 5 {
		want = append(want, api.Id{Node: 3, Seq: i})
		good(t, s.Put(put(want[i], 0, 0, "")))
	}
	first, second := s.List(), s.List()
	for _, blob := range first[:cap(first)][len(first):] {
		if blob != (api.Id{}) {
			t.Fatal("something is handed out behind an answer")
		}
	}
	for i := range first[:cap(first)] {
		first[:cap(first)][i] = api.Id{Node: 9}
	}
	good(t, s.Delete(want[0]))
	s.Sweep()
	if !slices.Equal(second, want) {
		t.Fatal("an answer of List changes:", second)
	}
	lists(t, s, want[1:]...)
}
