package frame

import (
	"bollard/api"
	"bytes"
	"crypto/sha256"
	"math"
	"testing"
)

// ends are a stamp's five numbers, each with the greatest that it may be.
func ends() []struct {
	most int
	set  func(*api.Stamp, int)
} {
	return []struct {
		most int
		set  func(*api.Stamp, int)
	}{
		{15, func(s *api.Stamp, n int) { s.Blob.Node = n }},
		{1 << 40, func(s *api.Stamp, n int) { s.Blob.Boot = n }},
		{1 << 40, func(s *api.Stamp, n int) { s.Blob.Seq = n }},
		{15, func(s *api.Stamp, n int) { s.Shard = n }},
		{1024, func(s *api.Stamp, n int) { s.Size = n }},
	}
}

// goodStamps are those with each number at 0, 1, one below its end, or its end: all of them together.
func goodStamps() []api.Stamp {
	out := []api.Stamp{{}}
	for _, end := range ends() {
		var more []api.Stamp
		for _, s := range out {
			for _, n := range []int{0, 1, end.most - 1, end.most} {
				end.set(&s, n)
				more = append(more, s)
			}
		}
		out = more
	}
	return out
}

// badStamps are those of which one number is out of form.
func badStamps() []api.Stamp {
	var out []api.Stamp
	for _, s := range []api.Stamp{{}, someStamp(), goodStamps()[len(goodStamps())-1]} {
		for _, end := range ends() {
			for _, n := range []int{end.most + 1, end.most + 2, 1 << 41, 1 << 62, math.MaxInt, -1, -2, -end.most, -1 << 62, math.MinInt + 1, math.MinInt} {
				bad := s
				end.set(&bad, n)
				out = append(out, bad)
			}
		}
	}
	return out
}

// P6.1: the chapter's example, byte for byte.
func TestExample(t *testing.T) {
	f := put(t, someStamp(), []byte("ab"))
	digest := sha256.Sum256([]byte("ab"))
	want := append([]byte("\x0b\x01\x01\x02\x03\x00\x04\x02\xfa\x4d\xe3\xeeab"), digest[:]...)
	if len(f) != 46 || !bytes.Equal(f, want) {
		t.Errorf("Put: %x, want %x", f, want)
	}
	takesHead(t, f, someStamp(), 2)
	takesGet(t, f, someStamp(), []byte("ab"))
}

// P6.1: the limits that the forms hang on are those of the document.
func TestLimits(t *testing.T) {
	if api.MaxWidth != 16 || api.MaxTime != 1<<40 || api.MaxBody != 1024 || api.MaxBlock != 32 {
		t.Error("the limits are others than those of these tests")
	}
}

// P6.1, P6.2: shards of every size, held against another implementation, and read back.
func TestEverySize(t *testing.T) {
	r := source()
	for n := range api.MaxBody + 1 {
		shard := someBytes(r, n)
		f := put(t, someStamp(), shard)
		if !bytes.Equal(f, plainFrame(someStamp(), shard)) {
			t.Fatalf("Put of %d bytes: %x", n, f)
		}
		takesHead(t, f, someStamp(), n)
		takesGet(t, f, someStamp(), shard)
	}
}

// P6.1: no bytes and nil are the same: a head alone.
func TestNoBytes(t *testing.T) {
	for _, shard := range [][]byte{nil, {}, make([]byte, 0, 9)} {
		f := put(t, api.Stamp{}, shard)
		if want := plainHeadOf([]byte{1, 0, 0, 0, 0, 0, 0}); len(f) != 12 || !bytes.Equal(f, want) {
			t.Errorf("Put of no bytes: %x", f)
		}
		takesHead(t, f, api.Stamp{}, 0)
		takesGet(t, f, api.Stamp{}, nil)
	}
}

// P6.1: shards whose bytes are all the same: blocks that are alike have each its digest.
func TestLikeBlocks(t *testing.T) {
	for _, fill := range []byte{0, 1, 128, 255} {
		for _, n := range sizes() {
			shard := bytes.Repeat([]byte{fill}, n)
			f := put(t, someStamp(), shard)
			if !bytes.Equal(f, plainFrame(someStamp(), shard)) {
				t.Fatalf("Put of %d bytes %d: %x", n, fill, f)
			}
			takesGet(t, f, someStamp(), shard)
		}
	}
}

// P6.1, P6.2: stamps with each number at each of its ends are written, and read back.
func TestGoodStamps(t *testing.T) {
	for i, s := range goodStamps() {
		shard := bytes.Repeat([]byte{byte(i)}, i%70)
		f := put(t, s, shard)
		if !bytes.Equal(f, plainFrame(s, shard)) {
			t.Fatalf("Put of %v: %x", s, f)
		}
		takesHead(t, f, s, len(shard))
		takesGet(t, f, s, shard)
	}
}

// P6.1: a stamp's Size and Shard say nothing of how many bytes the shard has.
func TestStampsApart(t *testing.T) {
	for _, size := range []int{0, 1, 1023, 1024} {
		for _, n := range []int{0, 1, 1023, 1024} {
			s := api.Stamp{Shard: 15, Size: size}
			shard := make([]byte, n)
			f := put(t, s, shard)
			takesHead(t, f, s, n)
			takesGet(t, f, s, shard)
		}
	}
}

// P6.1: each number one beyond its end, farther, and below 0.
func TestBadStamps(t *testing.T) {
	for _, s := range badStamps() {
		refusesPut(t, s, []byte("ab"), api.ErrNumber)
		refusesPut(t, s, nil, api.ErrNumber)
	}
	refusesPut(t, api.Stamp{Blob: api.Id{Node: -1, Boot: -1, Seq: -1}, Shard: -1, Size: -1}, nil, api.ErrNumber)
}

// P6.1: a shard of one byte more than MaxBody, and of many more.
func TestLarge(t *testing.T) {
	for _, n := range []int{1025, 1026, 2048, 1 << 20} {
		for _, s := range []api.Stamp{{}, someStamp(), goodStamps()[len(goodStamps())-1]} {
			refusesPut(t, s, make([]byte, n), api.ErrLarge)
		}
	}
	put(t, someStamp(), make([]byte, 1024))
}

// P6.1: of a stamp that isn't in form and a shard that is too large, the stamp is told.
func TestStampFirst(t *testing.T) {
	for _, s := range badStamps() {
		refusesPut(t, s, make([]byte, 1024), api.ErrNumber)
		refusesPut(t, s, make([]byte, 1025), api.ErrNumber)
	}
}
