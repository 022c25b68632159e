package shelf

import (
	"bollard/api"
	"bollard/frame"
	"fmt"
	"maps"
	"math/big"
	"math/rand/v2"
	"regexp"
	"slices"
	"strings"
	"testing"
)

// source gives the same numbers on every run.
func source() *rand.Rand { return rand.New(rand.NewPCG(8, 512)) }

// put is the frame of a shard, which must not be refused.
func put(blob api.Id, shard, size int, bytes string) []byte {
	f, err := frame.Put(api.Stamp{Blob: blob, Shard: shard, Size: size}, []byte(bytes))
	if err != nil {
		panic(err)
	}
	return f
}

// plainFile is a file of the other implementation; safe is what is safe of it, if anything is.
type plainFile struct {
	bytes  string
	safe   string
	isSafe bool
}

// plainShelf is the other implementation of a shelf, with a drive of its own.
type plainShelf struct {
	node  int
	files map[string]plainFile
	full  bool
	lost  int
}

func newPlain(node int) *plainShelf { return &plainShelf{node: node, files: map[string]plainFile{}} }

func plainGood(blob api.Id) bool {
	const most = 1099511627776
	return blob.Node >= 0 && blob.Node <= 15 && blob.Boot >= 0 && blob.Boot <= most && blob.Seq >= 0 && blob.Seq <= most
}

func plainName(letter string, blob api.Id) string {
	return fmt.Sprintf("%s-%d-%d-%d", letter, blob.Node, blob.Boot, blob.Seq)
}

var plainForm = regexp.MustCompile(`\Ab-(0|[1-9][0-9]*)-(0|[1-9][0-9]*)-(0|[1-9][0-9]*)\z`)

// plainBlob is the good id whose file has that name; false, if none has.
func plainBlob(name string) (api.Id, bool) {
	pieces := plainForm.FindStringSubmatch(name)
	if pieces == nil {
		return api.Id{}, false
	}
	var got [3]int
	for i, most := range []int64{15, 1 << 40, 1 << 40} {
		n, ok := new(big.Int).SetString(pieces[i+1], 10)
		if !ok || n.Cmp(big.NewInt(most)) > 0 {
			return api.Id{}, false
		}
		got[i] = int(n.Int64())
	}
	return api.Id{Node: got[0], Boot: got[1], Seq: got[2]}, true
}

// names are the names of the files, rising.
func (p *plainShelf) names() []string { return slices.Sorted(maps.Keys(p.files)) }

func (p *plainShelf) write(name string, b []byte) error {
	f, there := p.files[name]
	if p.full || !there && len(p.files) == 512 {
		return api.ErrFull
	}
	f.bytes = string(b)
	p.files[name] = f
	return nil
}

func (p *plainShelf) sync(name string) error {
	f, there := p.files[name]
	if !there {
		return api.ErrGone
	}
	if p.full {
		return api.ErrFull
	}
	p.files[name] = plainFile{f.bytes, f.bytes, true}
	return nil
}

func (p *plainShelf) rename(from, to string) error {
	f, there := p.files[from]
	if !there {
		return api.ErrGone
	}
	delete(p.files, from)
	p.files[to] = f
	return nil
}

func (p *plainShelf) drop(name string) error {
	if _, there := p.files[name]; !there {
		return api.ErrGone
	}
	delete(p.files, name)
	return nil
}

func (p *plainShelf) crash() {
	left := map[string]plainFile{}
	for name, f := range p.files {
		if f.isSafe {
			left[name] = plainFile{f.safe, f.safe, true}
		}
	}
	p.files = left
}

func (p *plainShelf) flip(n int) bool {
	all := 0
	for _, f := range p.files {
		all += 8 * len(f.bytes)
	}
	if all == 0 {
		return false
	}
	n = (n%all + all) % all
	for _, name := range p.names() {
		b := []byte(p.files[name].bytes)
		if n >= 0 && n < 8*len(b) {
			b[n/8] ^= []byte{1, 2, 4, 8, 16, 32, 64, 128}[n%8]
			p.files[name] = plainFile{string(b), string(b), true}
		}
		n -= 8 * len(b)
	}
	return true
}

func (p *plainShelf) lose() { p.files, p.full, p.lost = map[string]plainFile{}, false, p.lost+1 }

// put changes all files at once: the blob's stage is gone, and its file is the frame, safe.
func (p *plainShelf) put(f []byte) error {
	stamp, _, err := frame.Get(f)
	switch _, staged := p.files[plainName("t", stamp.Blob)]; {
	case err != nil:
		return err
	case stamp.Shard != p.node:
		return api.ErrNumber
	case p.full, !staged && len(p.files) >= 512:
		return api.ErrFull
	}
	delete(p.files, plainName("t", stamp.Blob))
	p.files[plainName("b", stamp.Blob)] = plainFile{string(f), string(f), true}
	return nil
}

func (p *plainShelf) get(blob api.Id) ([]byte, error) {
	f, there := p.files[plainName("b", blob)]
	switch {
	case !plainGood(blob):
		return nil, api.ErrNumber
	case !there:
		return nil, api.ErrGone
	}
	stamp, shard, err := frame.Get([]byte(f.bytes))
	// What frame.Put writes of the blob's own stamp must be the file's bytes: any other stamp would be seen in them.
	own, fault := frame.Put(api.Stamp{Blob: blob, Shard: p.node, Size: stamp.Size}, shard)
	if err != nil || fault != nil || string(own) != f.bytes {
		return nil, api.ErrLost
	}
	return own, nil
}

func (p *plainShelf) delete(blob api.Id) error {
	if !plainGood(blob) {
		return api.ErrNumber
	}
	return p.drop(plainName("b", blob))
}

// plainBefore tells whether a stands ahead of b.
func plainBefore(a, b api.Id) bool {
	if a.Node != b.Node {
		return a.Node < b.Node
	}
	if a.Boot != b.Boot {
		return a.Boot < b.Boot
	}
	return a.Seq < b.Seq
}

// list puts each blob into its place among those that are there already.
func (p *plainShelf) list() []api.Id {
	var out []api.Id
	for name := range p.files {
		if blob, ok := plainBlob(name); ok {
			at := 0
			for at < len(out) && plainBefore(out[at], blob) {
				at++
			}
			out = slices.Insert(out, at, blob)
		}
	}
	return out
}

func (p *plainShelf) sweep() int {
	before := len(p.files)
	maps.DeleteFunc(p.files, func(name string, _ plainFile) bool { _, ok := plainBlob(name); return !ok })
	return before - len(p.files)
}

// told is what the other implementation tells of itself: its files, how often it was lost, and its blobs, those among these with what Get answers.
func (p *plainShelf) told(blobs []api.Id) string {
	var out strings.Builder
	fmt.Fprint(&out, "lost ", p.lost)
	for _, name := range p.names() {
		fmt.Fprintf(&out, " %s=%x", name, p.files[name].bytes)
	}
	fmt.Fprint(&out, " blobs", p.list())
	for _, blob := range blobs {
		f, err := p.get(blob)
		fmt.Fprintf(&out, " %v:%x,%v,%v", blob, f, err, err == nil)
	}
	return out.String()
}

func told(t *testing.T, s *Shelf, blobs []api.Id) string {
	t.Helper()
	var out strings.Builder
	fmt.Fprint(&out, "lost ", s.Drive().Lost())
	for name := range s.Drive().List() {
		b, err := s.Drive().Read(name)
		if err != nil {
			t.Fatal("a file that is listed:", name, err)
		}
		fmt.Fprintf(&out, " %s=%x", name, b)
	}
	fmt.Fprint(&out, " blobs", s.List())
	for _, blob := range blobs {
		f, err := s.Get(blob)
		fmt.Fprintf(&out, " %v:%x,%v,%v", blob, f, err, s.Has(blob))
	}
	return out.String()
}
