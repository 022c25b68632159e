package frame

import (
	"bollard/api"
	"bytes"
	"crypto/sha256"
	"encoding/binary"
	"hash/fnv"
	"math/rand/v2"
	"testing"
)

// source gives the same numbers on every run.
func source() *rand.Rand { return rand.New(rand.NewPCG(6, 32)) }

func someBytes(r *rand.Rand, n int) []byte {
	out := make([]byte, n)
	for i := range out {
		out[i] = byte(r.Uint32())
	}
	return out
}

// sizes are both sides of MaxBlock and of its multiples, none, and the most.
func sizes() []int {
	out := []int{0, 1, 2}
	for n := api.MaxBlock; n <= api.MaxBody; n += api.MaxBlock {
		out = append(out, n-1, n, min(n+1, api.MaxBody))
	}
	return out
}

func someStamp() api.Stamp {
	return api.Stamp{Blob: api.Id{Node: 1, Boot: 2, Seq: 3}, Size: 4}
}

// plainNumbers are numbers as the other implementation's bytes.
func plainNumbers(numbers ...uint64) []byte {
	var out []byte
	for _, n := range numbers {
		out = binary.AppendUvarint(out, n)
	}
	return out
}

func stampNumbers(s api.Stamp, size int) []uint64 {
	return []uint64{1, uint64(s.Blob.Node), uint64(s.Blob.Boot), uint64(s.Blob.Seq), uint64(s.Shard), uint64(s.Size), uint64(size)}
}

// plainList is bytes with their number ahead.
func plainList(b []byte) []byte {
	return append(binary.AppendUvarint(nil, uint64(len(b))), b...)
}

// plainSealed is bytes with the other implementation's sum behind.
func plainSealed(b []byte) []byte {
	h := fnv.New32a()
	h.Write(b)
	return h.Sum(bytes.Clone(b))
}

// plainHeadOf is a head of just these bytes, sealed.
func plainHeadOf(b []byte) []byte { return plainList(plainSealed(b)) }

// plainBody is the blocks with the other implementation's digests.
func plainBody(shard []byte) []byte {
	var out []byte
	for len(shard) > 0 {
		n := min(len(shard), 32)
		digest := sha256.Sum256(shard[:n])
		out = append(append(out, shard[:n]...), digest[:]...)
		shard = shard[n:]
	}
	return out
}

// plainFrame is the other implementation's frame.
func plainFrame(s api.Stamp, shard []byte) []byte {
	return append(plainHeadOf(plainNumbers(stampNumbers(s, len(shard))...)), plainBody(shard)...)
}

// plainNum reads a number in its shortest form; false, if there is none.
func plainNum(b []byte) (uint64, []byte, bool) {
	n, size := binary.Uvarint(b)
	if size <= 0 || n >= 1<<63 || !bytes.Equal(plainNumbers(n), b[:size]) {
		return 0, nil, false
	}
	return n, b[size:], true
}

// plainSplit reads a frame's head by the other implementation: the stamp, the number of the shard's bytes, what stands behind.
func plainSplit(frame []byte) (s api.Stamp, size int, body []byte, err error) {
	n, left, ok := plainNum(frame)
	if !ok || n > 256 || n > uint64(len(left)) || n < 4 {
		return s, 0, nil, api.ErrBytes
	}
	inner, body := left[:n-4], left[n:]
	if !bytes.Equal(plainSealed(inner), left[:n]) {
		return s, 0, nil, api.ErrDigest
	}
	var got [7]int
	for i, most := range []uint64{1, 15, 1 << 40, 1 << 40, 15, 1024, 1024} {
		if n, inner, ok = plainNum(inner); !ok || n > most {
			return s, 0, nil, api.ErrBytes
		}
		got[i] = int(n)
	}
	if got[0] != 1 || len(inner) > 0 {
		return s, 0, nil, api.ErrBytes
	}
	s = api.Stamp{Blob: api.Id{Node: got[1], Boot: got[2], Seq: got[3]}, Shard: got[4], Size: got[5]}
	return s, got[6], body, nil
}

// plainGet reads a frame by the other implementation.
func plainGet(frame []byte) (api.Stamp, []byte, error) {
	s, size, body, err := plainSplit(frame)
	if err != nil {
		return api.Stamp{}, nil, err
	}
	if len(body) != len(plainBody(make([]byte, size))) {
		return api.Stamp{}, nil, api.ErrBytes
	}
	var shard []byte
	for i := 0; i < len(body); i += 64 {
		shard = append(shard, body[i:min(i+32, len(body)-32)]...)
	}
	if !bytes.Equal(plainBody(shard), body) {
		return api.Stamp{}, nil, api.ErrDigest
	}
	return s, shard, nil
}

// put is a frame that isn't refused.
func put(t *testing.T, s api.Stamp, shard []byte) []byte {
	t.Helper()
	f, err := Put(s, shard)
	if err != nil {
		t.Fatal("Put of", s, len(shard), "bytes:", err)
	}
	return f
}

// refusesPut asks that Put answers the error and nothing else.
func refusesPut(t *testing.T, s api.Stamp, shard []byte, want error) {
	t.Helper()
	if f, err := Put(s, shard); len(f) != 0 || err != want {
		t.Fatal("Put of", s, len(shard), "bytes:", len(f), "bytes", err, "want", want)
	}
}

// refusesHead asks that Head and Get answer the error and nothing else.
func refusesHead(t *testing.T, frame []byte, want error) {
	t.Helper()
	if s, n, err := Head(frame); s != (api.Stamp{}) || n != 0 || err != want {
		t.Fatalf("Head of %x: %v, %d, %v, want %v", frame[:min(len(frame), 40)], s, n, err, want)
	}
	refusesGet(t, frame, want)
}

// refusesGet asks that Get answers the error and nothing else.
func refusesGet(t *testing.T, frame []byte, want error) {
	t.Helper()
	if s, b, err := Get(frame); s != (api.Stamp{}) || len(b) != 0 || err != want {
		t.Fatalf("Get of %x: %v, %x, %v, want %v", frame[:min(len(frame), 40)], s, b, err, want)
	}
}

// takesHead asks that Head answers just this.
func takesHead(t *testing.T, frame []byte, want api.Stamp, size int) {
	t.Helper()
	if s, n, err := Head(frame); s != want || n != size || err != nil {
		t.Fatal("Head:", s, n, err, "want", want, size)
	}
}

// takesGet asks that Get answers just this.
func takesGet(t *testing.T, frame []byte, want api.Stamp, shard []byte) {
	t.Helper()
	if s, b, err := Get(frame); s != want || !bytes.Equal(b, shard) || err != nil {
		t.Fatalf("Get: %v, %x, %v, want %v, %x", s, b, err, want, shard)
	}
}

// asPlain asks that Head and Get answer what the other implementation does, and that Put writes what Get takes.
func asPlain(t *testing.T, frame []byte) {
	t.Helper()
	s, size, _, err := plainSplit(frame)
	if err != nil {
		refusesHead(t, frame, err)
		return
	}
	takesHead(t, frame, s, size)
	s, shard, err := plainGet(frame)
	if err != nil {
		refusesGet(t, frame, err)
		return
	}
	takesGet(t, frame, s, shard)
	if !bytes.Equal(put(t, s, shard), frame) {
		t.Fatalf("Put doesn't write what Get takes: %x", frame)
	}
}
