package frame

import (
	"bollard/api"
	"bytes"
	"testing"
)

// everyChange asks for each byte of the frame, changed to each other one, that Get refuses it, and as the other implementation does.
func everyChange(t *testing.T, f []byte, first int, want error) {
	t.Helper()
	for i := first; i < len(f); i++ {
		for add := 1; add < 256; add++ {
			f[i]++
			if want != nil {
				refusesGet(t, f, want)
			}
			if _, _, err := Get(f); err == nil {
				t.Fatal("byte", i, "changed is taken")
			}
			asPlain(t, f)
		}
		f[i]++
	}
}

// P6.3: every byte of the blocks and of the digests changed to each other one is ErrDigest.
func TestChangedBlocks(t *testing.T) {
	for _, size := range []int{1, 2, 31, 32, 33, 64, 65, 100} {
		shard := someBytes(source(), size)
		f := put(t, someStamp(), shard)
		everyChange(t, f, len(f)-len(plainBody(shard)), api.ErrDigest)
		takesGet(t, f, someStamp(), shard)
	}
}

// P6.1: every byte of the head changed is refused; the sealed ones are ErrDigest.
func TestChangedHead(t *testing.T) {
	stamps := []api.Stamp{{}, someStamp(), {Blob: api.Id{Node: 15, Boot: 1 << 40, Seq: 1 << 40}, Shard: 15, Size: 1024}}
	for _, s := range stamps {
		for _, size := range []int{0, 2, 40} {
			f := put(t, s, someBytes(source(), size))
			head := f[:len(f)-len(plainBody(make([]byte, size)))]
			for i := 1; i < len(head); i++ {
				for add := 1; add < 256; add++ {
					head[i]++
					refusesHead(t, f, api.ErrDigest)
				}
				head[i]++
			}
			everyChange(t, f, 0, nil)
		}
	}
}

// P6.3: one bit turned, at every place of the greatest frame.
func TestTurnedBits(t *testing.T) {
	shard := someBytes(source(), api.MaxBody)
	f := put(t, someStamp(), shard)
	for i := 13; i < len(f); i++ {
		bit := byte(1) << (i % 8)
		f[i] ^= bit
		refusesGet(t, f, api.ErrDigest)
		takesHead(t, f, someStamp(), api.MaxBody)
		f[i] ^= bit
	}
	takesGet(t, f, someStamp(), shard)
}

// P6.3: a block that is changed together with its digest is another frame: Get takes it, and Put writes it.
func TestChangedWithDigest(t *testing.T) {
	shard := someBytes(source(), 100)
	for i := range shard {
		other := bytes.Clone(shard)
		other[i] ^= 1
		asPlain(t, plainFrame(someStamp(), other))
	}
}

// P6.1: blocks and digests that stand in another's place, or are cut elsewhere.
func TestBlocksMoved(t *testing.T) {
	shard := someBytes(source(), 96)
	f := put(t, someStamp(), shard)
	body := f[len(f)-192:]
	moved := bytes.Clone(body)
	copy(moved, body[64:128])
	copy(moved[64:], body[:64])
	asPlain(t, append(bytes.Clone(f[:len(f)-192]), moved...))
	digests := bytes.Clone(body)
	copy(digests[32:64], body[96:128])
	copy(digests[96:128], body[32:64])
	refusesGet(t, append(bytes.Clone(f[:len(f)-192]), digests...), api.ErrDigest)
	together := append(bytes.Clone(shard), body[32:64]...)
	together = append(append(together, body[96:128]...), body[160:]...)
	refusesGet(t, append(bytes.Clone(f[:len(f)-192]), together...), api.ErrDigest)
}

// P6.2: frames of stamps and shards of every kind, some of them changed, held against another implementation.
func TestManyChanged(t *testing.T) {
	r := source()
	for range 20000 {
		s := api.Stamp{Blob: api.Id{Node: r.IntN(16), Boot: r.IntN(1<<40 + 1), Seq: r.IntN(300)}, Shard: r.IntN(16), Size: r.IntN(1025)}
		f := put(t, s, someBytes(r, r.IntN(130)))
		asPlain(t, f)
		for range r.IntN(3) {
			f[r.IntN(len(f))] = byte(r.Uint32())
		}
		if r.IntN(4) == 0 {
			i := r.IntN(len(f))
			f = append(f[:i], f[i+1:]...)
		}
		asPlain(t, f)
	}
}
