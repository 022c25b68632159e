package frame

import (
	"bollard/api"
	"bytes"
	"math"
	"testing"
)

// bodies are what may stand behind a head that is no frame's: whatever it is, the head is told first.
func bodies() [][]byte {
	return [][]byte{nil, {0}, plainBody([]byte("ab")), make([]byte, 34), make([]byte, 500)}
}

// headRefused asks that Head and Get refuse the head, whatever stands behind it.
func headRefused(t *testing.T, head []byte, want error) {
	t.Helper()
	for _, body := range bodies() {
		refusesHead(t, append(bytes.Clone(head), body...), want)
	}
}

// P6.1: every strict beginning of a frame is refused by Get; Head takes those that have the whole head.
func TestBeginnings(t *testing.T) {
	for _, size := range sizes() {
		shard := someBytes(source(), size)
		f := put(t, someStamp(), shard)
		head := len(f) - len(plainBody(shard))
		for n := range f {
			if n < head {
				refusesHead(t, f[:n], api.ErrBytes)
				continue
			}
			takesHead(t, f[:n], someStamp(), size)
			refusesGet(t, f[:n], api.ErrBytes)
		}
	}
}

// P6.1: bytes behind a frame are refused by Get, though they be blocks with their digests; Head doesn't look at them.
func TestBytesBehind(t *testing.T) {
	for _, size := range sizes() {
		shard := someBytes(source(), size)
		f := put(t, someStamp(), shard)
		for _, more := range [][]byte{{0}, {255}, make([]byte, 31), make([]byte, 32), make([]byte, 33), plainBody([]byte("a")), plainBody(make([]byte, 32)), make([]byte, 5000), f} {
			long := append(bytes.Clone(f), more...)
			takesHead(t, long, someStamp(), size)
			refusesGet(t, long, api.ErrBytes)
		}
	}
}

// P6.1: a head that tells another number of bytes than stand behind it.
func TestOtherSize(t *testing.T) {
	for _, size := range sizes() {
		body := plainBody(someBytes(source(), size))
		for _, told := range sizes() {
			f := append(plainHeadOf(plainNumbers(stampNumbers(someStamp(), told)...)), body...)
			takesHead(t, f, someStamp(), told)
			if told != size {
				refusesGet(t, f, api.ErrBytes)
			}
		}
	}
}

// P6.1: the length behind the head is told ahead of a wrong digest, the head ahead of both.
func TestFirstError(t *testing.T) {
	f := put(t, someStamp(), []byte("ab"))
	wrong := bytes.Clone(f)
	wrong[13] ^= 1
	refusesGet(t, wrong, api.ErrDigest)
	refusesGet(t, wrong[:45], api.ErrBytes)
	refusesGet(t, append(bytes.Clone(wrong), 0), api.ErrBytes)
	wrong[11] ^= 1
	refusesHead(t, wrong, api.ErrDigest)
	refusesHead(t, wrong[:45], api.ErrDigest)
	refusesHead(t, wrong[:12], api.ErrDigest)
	refusesHead(t, append(bytes.Clone(wrong), 0), api.ErrDigest)
	refusesHead(t, wrong[:11], api.ErrBytes)
}

// P6.1: no bytes, and bytes that begin with no number in its shortest form, or with one of more bytes than there are.
func TestNoList(t *testing.T) {
	refusesHead(t, nil, api.ErrBytes)
	refusesHead(t, []byte{}, api.ErrBytes)
	f := put(t, someStamp(), []byte("ab"))
	headRefused(t, []byte{0x80, 0x80, 0x80, 0x80, 0x80, 0x80, 0x80, 0x80, 0x80, 0x80}, api.ErrBytes)
	headRefused(t, bytes.Repeat([]byte{255}, 300), api.ErrBytes)
	headRefused(t, append([]byte{0x8b, 0}, f[1:]...), api.ErrBytes)
	headRefused(t, append([]byte{0x8b, 0x80, 0}, f[1:]...), api.ErrBytes)
	for n := 12; n < 128; n++ {
		refusesHead(t, append([]byte{byte(n)}, f[1:12]...), api.ErrBytes)
	}
	refusesHead(t, plainList(make([]byte, 256))[:257], api.ErrBytes)
}

// P6.1: a list of 256 bytes is opened, one of more isn't, whatever its sum.
func TestLongList(t *testing.T) {
	numbers := plainNumbers(stampNumbers(someStamp(), 2)...)
	filled := func(n int) []byte { return append(bytes.Clone(numbers), make([]byte, n-len(numbers)-4)...) }
	for _, n := range []int{127, 128, 255, 256} {
		headRefused(t, plainHeadOf(filled(n)), api.ErrBytes)
		headRefused(t, plainList(make([]byte, n)), api.ErrDigest)
	}
	for _, n := range []int{257, 258, 300, 16384, 100000} {
		headRefused(t, plainHeadOf(filled(n)), api.ErrBytes)
		headRefused(t, plainList(make([]byte, n)), api.ErrBytes)
	}
	headRefused(t, append(plainNumbers(math.MaxInt64), plainSealed(numbers)...), api.ErrBytes)
	headRefused(t, append(plainNumbers(math.MaxUint64), plainSealed(numbers)...), api.ErrBytes)
}

// P6.1: a head of fewer than four bytes can't be opened, one of four opens to no numbers, if it opens.
func TestShortList(t *testing.T) {
	for n := range 4 {
		headRefused(t, plainList(make([]byte, n)), api.ErrBytes)
		headRefused(t, plainList(plainSealed(nil)[:n]), api.ErrBytes)
	}
	headRefused(t, plainList(make([]byte, 4)), api.ErrDigest)
	headRefused(t, plainHeadOf(nil), api.ErrBytes)
}

// P6.1: a wrong sum is told, whatever the head would open to.
func TestWrongSum(t *testing.T) {
	for _, numbers := range [][]uint64{stampNumbers(someStamp(), 2), {}, {2, 1, 2, 3, 0, 4, 2}, {1, 16, 2, 3, 0, 4, 2}, {1, 1, 2, 3, 0, 4, 1025}, {1, 1}, {1, 1, 2, 3, 0, 4, 2, 0}} {
		sealed := plainSealed(plainNumbers(numbers...))
		for i := range sealed {
			for add := 1; add < 256; add++ {
				sealed[i]++
				refusesHead(t, append(plainList(sealed), plainBody([]byte("ab"))...), api.ErrDigest)
			}
			sealed[i]++
		}
	}
	sealed := plainSealed(plainNumbers(stampNumbers(someStamp(), 2)...))
	headRefused(t, plainList(sealed[:len(sealed)-1]), api.ErrDigest)
	headRefused(t, plainList(sealed[1:]), api.ErrDigest)
	headRefused(t, plainList(append(sealed, 0)), api.ErrDigest)
}

// P6.1: too few numbers, and too many.
func TestCountOfNumbers(t *testing.T) {
	all := append(stampNumbers(someStamp(), 2), 0, 1, 2, 3)
	for n := range len(all) + 1 {
		if n != 7 {
			headRefused(t, plainHeadOf(plainNumbers(all[:n]...)), api.ErrBytes)
		}
	}
	numbers := plainNumbers(stampNumbers(api.Stamp{Blob: api.Id{Node: 15, Boot: 1 << 40, Seq: 1 << 40}, Shard: 15, Size: 1024}, 1024)...)
	for n := range numbers {
		headRefused(t, plainHeadOf(numbers[:n]), api.ErrBytes)
	}
	for i := range 256 {
		headRefused(t, plainHeadOf(append(bytes.Clone(numbers), byte(i))), api.ErrBytes)
	}
}

// P6.1: numbers that aren't in their shortest form, each of the seven.
func TestLongNumbers(t *testing.T) {
	numbers := stampNumbers(someStamp(), 2)
	for i := range numbers {
		for _, long := range [][]byte{{byte(numbers[i]) | 128, 0}, {byte(numbers[i]) | 128, 128, 0}} {
			inner := append(plainNumbers(numbers[:i]...), long...)
			headRefused(t, plainHeadOf(append(inner, plainNumbers(numbers[i+1:]...)...)), api.ErrBytes)
		}
	}
}

// P6.1: a first number other than 1.
func TestFirstNumber(t *testing.T) {
	numbers := stampNumbers(someStamp(), 2)
	for _, n := range []uint64{0, 2, 3, 127, 128, 129, 256, 257, 1 << 32, 1<<32 + 1, math.MaxInt64, math.MaxInt64 + 1, math.MaxUint64} {
		numbers[0] = n
		headRefused(t, plainHeadOf(plainNumbers(numbers...)), api.ErrBytes)
	}
}

// P6.1: a stamp that isn't in form, and a number of bytes above MaxBody.
func TestNumbersBeyond(t *testing.T) {
	most := []uint64{1, 15, 1 << 40, 1 << 40, 15, 1024, 1024}
	for i := 1; i < 7; i++ {
		for _, start := range [][]uint64{stampNumbers(someStamp(), 2), most} {
			for _, n := range []uint64{most[i] + 1, most[i] + 2, 1 << 41, 1 << 62, math.MaxInt64, math.MaxInt64 + 1, math.MaxUint64} {
				numbers := append([]uint64{}, start...)
				numbers[i] = n
				headRefused(t, plainHeadOf(plainNumbers(numbers...)), api.ErrBytes)
			}
			for _, n := range []uint64{0, most[i]} {
				numbers := append([]uint64{}, start...)
				numbers[i] = n
				asPlain(t, append(plainHeadOf(plainNumbers(numbers...)), plainBody([]byte("ab"))...))
				asPlain(t, append(plainHeadOf(plainNumbers(numbers...)), plainBody(make([]byte, numbers[6]))...))
			}
		}
	}
	headRefused(t, append(plainHeadOf(plainNumbers(1, 1, 2, 3, 0, 4, 1025)), plainBody(make([]byte, 1025))...), api.ErrBytes)
}

// P6.1: every beginning of two bytes, with and without a frame behind.
func TestTwoBytes(t *testing.T) {
	f := put(t, someStamp(), someBytes(source(), 400))
	for i := range 1 << 16 {
		f[0], f[1] = byte(i), byte(i>>8)
		asPlain(t, f)
		asPlain(t, f[:2])
	}
}

// P6.1, P6.2: rows of numbers that are sealed, good ones and others, held against another implementation.
func TestSealedRows(t *testing.T) {
	r := source()
	taken := 0
	for range 20000 {
		inner := []byte{1}
		for range 5 + r.IntN(3) {
			inner = append(inner, plainNumbers(r.Uint64()>>(63-r.IntN(10)))...)
		}
		if r.IntN(4) == 0 {
			inner[r.IntN(len(inner))] = byte(r.Uint32())
		}
		f := plainHeadOf(inner)
		if _, size, _, err := plainSplit(f); err == nil {
			f = append(f, plainBody(someBytes(r, size))...)
			taken++
		}
		asPlain(t, f)
	}
	if taken < 500 {
		t.Error("too few frames among them:", taken)
	}
}

// P6.1: bytes that are nothing.
func TestNoFrames(t *testing.T) {
	r := source()
	for i := range 20000 {
		asPlain(t, someBytes(r, i%400))
	}
	for i := range 300 {
		for _, fill := range []byte{0, 1, 4, 11, 127, 128, 255} {
			asPlain(t, bytes.Repeat([]byte{fill}, i))
		}
	}
}
