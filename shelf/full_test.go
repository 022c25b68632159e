package shelf

import (
	"bollard/api"
	"fmt"
	"strconv"
	"testing"
)

// crowded is a shelf whose drive has MaxFiles files, of the blobs 0 0 0 to 0 0 511, all safe.
func crowded(t *testing.T, node int) *Shelf {
	t.Helper()
	s := newShelf(t, node)
	for i := range api.MaxFiles {
		lay(t, s, "b-0-0-"+strconv.Itoa(i), put(api.Id{Seq: i}, node, 0, ""))
	}
	return s
}

// P8.1, P8.2: a full drive takes no Put, of a blob that is there or of another, and what is there stays, also behind a crash; when it isn't full any more it takes them.
func TestFull(t *testing.T) {
	f, newer, other := put(id123(), 0, 2, "ab"), put(id123(), 0, 2, "cd"), put(api.Id{Node: 4}, 0, 1, "c")
	for _, staged := range []bool{false, true} {
		s := newShelf(t, 0)
		good(t, s.Put(f))
		want := []string{"b-1-2-3"}
		if staged {
			lay(t, s, "t-1-2-3", []byte{1})
			want = append(want, "t-1-2-3")
		}
		s.Drive().Fill(true)
		refusesPut(t, s, newer, api.ErrFull)
		refusesPut(t, s, f, api.ErrFull)
		refusesPut(t, s, other, api.ErrFull)
		holds(t, s, id123(), f)
		files(t, s, want...)
		s.Drive().Crash()
		holds(t, s, id123(), f)
		files(t, s, want...)
		refusesPut(t, s, newer, api.ErrFull)
		s.Drive().Fill(false)
		good(t, s.Put(newer), s.Put(other))
		files(t, s, "b-1-2-3", "b-4-0-0")
		s.Drive().Crash()
		holds(t, s, id123(), newer)
		holds(t, s, api.Id{Node: 4}, other)
	}
}

// P8.1: a drive that is full answers what is asked of it as ever, and takes frames again when it is lost.
func TestFullAsked(t *testing.T) {
	s := newShelf(t, 0)
	f := put(id123(), 0, 2, "ab")
	good(t, s.Put(f))
	s.Drive().Fill(true)
	holds(t, s, id123(), f)
	lists(t, s, id123())
	refuses(t, s, api.Id{Node: 4}, api.ErrGone)
	if s.Sweep() != 0 {
		t.Error("Sweep")
	}
	s.Drive().Flip(0)
	refuses(t, s, id123(), api.ErrLost)
	s.Drive().Lose()
	refuses(t, s, id123(), api.ErrGone)
	lists(t, s)
	good(t, s.Put(f))
	holds(t, s, id123(), f)
}

// P8.1, P8.2: a drive with MaxFiles files has room for a stage only if that stage is among them; the blob's own file is no help.
func TestCrowded(t *testing.T) {
	for _, there := range []bool{false, true} {
		for _, staged := range []bool{false, true} {
			s := crowded(t, 0)
			old, f := put(id123(), 0, 2, "old"), put(id123(), 0, 2, "ab")
			if there {
				good(t, s.Delete(api.Id{Seq: 0}))
				lay(t, s, "b-1-2-3", old)
			}
			if staged {
				good(t, s.Delete(api.Id{Seq: 1}))
				good(t, s.Drive().Write("t-1-2-3", []byte{1}))
			}
			if !staged {
				refusesPut(t, s, f, api.ErrFull)
				s.Drive().Crash()
				if there {
					holds(t, s, id123(), old)
				} else {
					refuses(t, s, id123(), api.ErrGone)
				}
				good(t, s.Delete(api.Id{Seq: 2}))
			}
			good(t, s.Put(f))
			s.Drive().Crash()
			holds(t, s, id123(), f)
			if _, err := s.Drive().Read("t-1-2-3"); err != api.ErrGone {
				t.Fatal("the stage is left:", there, staged)
			}
			want := api.MaxFiles
			if there {
				want--
			}
			if len(s.List()) != want {
				t.Fatal(len(s.List()), "blobs in the place of", want)
			}
		}
	}
}

// P8.1: MaxFiles blobs are put on one shelf, one behind the other, and one more isn't; none is put again.
func TestMaxFiles(t *testing.T) {
	s := newShelf(t, 5)
	var all []api.Id
	for i := range api.MaxFiles {
		all = append(all, api.Id{Node: i / 100, Seq: i % 100})
		good(t, s.Put(put(all[i], 5, 1, fmt.Sprint(i))))
	}
	lists(t, s, all...)
	refusesPut(t, s, put(id123(), 5, 0, ""), api.ErrFull)
	refusesPut(t, s, put(all[7], 5, 0, "another"), api.ErrFull)
	s.Drive().Crash()
	for i, blob := range all {
		holds(t, s, blob, put(blob, 5, 1, fmt.Sprint(i)))
	}
	good(t, s.Delete(all[3]), s.Put(put(all[7], 5, 0, "another")), s.Put(put(id123(), 5, 0, "")))
	refusesPut(t, s, put(all[3], 5, 0, ""), api.ErrFull)
}
