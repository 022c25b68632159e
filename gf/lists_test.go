package gf

import (
	"bytes"
	"math/rand/v2"
	"testing"
)

// at is the element at a place, 0 behind the list's end.
func at(list []byte, i int) byte {
	if i < len(list) {
		return list[i]
	}
	return 0
}

func plainAddScaled(a []byte, c byte, b []byte) []byte {
	var out []byte
	for i := range max(len(a), len(b)) {
		out = append(out, at(a, i)^plainMul(c, at(b, i)))
	}
	return out
}

func plainDot(a, b []byte) byte {
	sum := byte(0)
	for i := range min(len(a), len(b)) {
		sum ^= plainMul(a[i], b[i])
	}
	return sum
}

// source gives the same lists on every run.
func source() *rand.Rand { return rand.New(rand.NewPCG(1, 285)) }

func someList(r *rand.Rand, n int) []byte {
	out := make([]byte, n)
	for i := range out {
		out[i] = byte(r.Uint32())
	}
	return out
}

// roomy is the list with spare room behind its length, filled with the byte.
func roomy(list []byte, fill byte) []byte {
	out := append(bytes.Clone(list), bytes.Repeat([]byte{fill}, 16)...)
	return out[:len(list)]
}

// someLengths are lengths of lists, 0 among them.
func someLengths() []int { return []int{0, 1, 2, 3, 7, 8, 9, 31, 64, 1024} }

// P1.1: every call over lists answers what is told, at lists of like and unlike lengths.
func TestListsOfAllLengths(t *testing.T) {
	r := source()
	for _, m := range someLengths() {
		for _, n := range someLengths() {
			a, b := someList(r, m), someList(r, n)
			if got, want := Dot(a, b), plainDot(a, b); got != want {
				t.Errorf("Dot of %d and %d elements = %d, want %d", m, n, got, want)
			}
			if !bytes.Equal(Sum(a, b), plainAddScaled(a, 1, b)) {
				t.Errorf("Sum of %d and %d elements", m, n)
			}
			for _, c := range []byte{0, 1, 2, 29, 128, 255} {
				if !bytes.Equal(AddScaled(a, c, b), plainAddScaled(a, c, b)) {
					t.Errorf("AddScaled of %d and %d times %d elements", m, c, n)
				}
			}
		}
	}
}

// P1.1: AddScaled is Sum of a and Scale, by its own words.
func TestAddScaledIsSumOfScale(t *testing.T) {
	r := source()
	for c := range 256 {
		a, b := someList(r, c%11), someList(r, c%7)
		if !bytes.Equal(AddScaled(a, byte(c), b), Sum(a, Scale(byte(c), b))) {
			t.Errorf("AddScaled(%v, %d, %v)", a, c, b)
		}
	}
}

// P1.1: Scale by every element, of a list of every element and of each shorter one.
func TestScaleByAllElements(t *testing.T) {
	all := make([]byte, 256)
	for i := range all {
		all[i] = byte(i)
	}
	for c := range 256 {
		list := all[c:]
		got := Scale(byte(c), list)
		if !bytes.Equal(got, plainAddScaled(nil, byte(c), list)) {
			t.Errorf("Scale(%d, ..) = %v", c, got)
		}
	}
}

// P1.1: nil and empty lists mean the same.
func TestNilAndEmptyLists(t *testing.T) {
	some := []byte{1, 2, 255}
	for _, none := range [][]byte{nil, {}, make([]byte, 0, 8)} {
		if Dot(none, some) != 0 || Dot(some, none) != 0 || Dot(none, nil) != 0 {
			t.Error("Dot with an empty list isn't 0")
		}
		if !bytes.Equal(Sum(none, some), some) || !bytes.Equal(Sum(some, none), some) || len(Sum(none, nil)) != 0 {
			t.Error("Sum with an empty list")
		}
		if len(Scale(7, none)) != 0 {
			t.Error("Scale of an empty list isn't empty")
		}
		if !bytes.Equal(AddScaled(some, 7, none), some) || !bytes.Equal(AddScaled(none, 2, some), []byte{2, 4, 227}) || len(AddScaled(none, 7, nil)) != 0 {
			t.Error("AddScaled with an empty list")
		}
	}
}

// P1.1: the chapter's examples of lists.
func TestExamplesOfLists(t *testing.T) {
	if got := Sum([]byte{1, 2}, []byte{1}); !bytes.Equal(got, []byte{0, 2}) {
		t.Error("Sum", got)
	}
	if got := Dot([]byte{1, 2}, []byte{3, 4, 5}); got != 11 {
		t.Error("Dot", got)
	}
	if got := Scale(2, []byte{128, 1}); !bytes.Equal(got, []byte{29, 2}) {
		t.Error("Scale", got)
	}
}

// listCalls are the calls that answer lists, each over two lists.
func listCalls() map[string]func(a, b []byte) []byte {
	return map[string]func(a, b []byte) []byte{
		"Sum":            Sum,
		"Scale":          func(_, b []byte) []byte { return Scale(29, b) },
		"Scale by 1":     func(_, b []byte) []byte { return Scale(1, b) },
		"AddScaled":      func(a, b []byte) []byte { return AddScaled(a, 29, b) },
		"AddScaled by 0": func(a, b []byte) []byte { return AddScaled(a, 0, b) },
		"AddScaled by 1": func(a, b []byte) []byte { return AddScaled(a, 1, b) },
		"Dot":            func(a, b []byte) []byte { return []byte{Dot(a, b)} },
	}
}

// Rule 4: what lies behind a list's length is neither read nor handed out nor changed.
func TestSpareRoom(t *testing.T) {
	r := source()
	for name, call := range listCalls() {
		for _, m := range someLengths() {
			for _, n := range someLengths() {
				a, b := someList(r, m), someList(r, n)
				want := call(a, b)
				roomyA, roomyB := roomy(a, 171), roomy(b, 205)
				got := call(roomyA, roomyB)
				if !bytes.Equal(got, want) {
					t.Errorf("%s of %d and %d elements reads the spare room", name, m, n)
				}
				if behind := got[len(got):cap(got)]; !bytes.Equal(behind, make([]byte, len(behind))) {
					t.Errorf("%s of %d and %d elements hands out the spare room", name, m, n)
				}
				if !bytes.Equal(roomyA[:m+16], roomy(a, 171)[:m+16]) || !bytes.Equal(roomyB[:n+16], roomy(b, 205)[:n+16]) {
					t.Errorf("%s of %d and %d elements changes what it is handed", name, m, n)
				}
			}
		}
	}
}

// overwrite fills the list and the room behind it.
func overwrite(list []byte, fill byte) {
	list = list[:cap(list)]
	for i := range list {
		list[i] = fill
	}
}

// Rule 4: an answer is new memory, and nothing that was handed in is kept.
func TestAnswersAreNewMemory(t *testing.T) {
	r := source()
	for name, call := range listCalls() {
		for _, m := range someLengths() {
			for _, n := range someLengths() {
				firstA, firstB := someList(r, m), someList(r, n)
				a, b := roomy(firstA, 0), roomy(firstB, 0)
				first := call(a, b)
				want := bytes.Clone(first)
				overwrite(a, 3)
				overwrite(b, 5)
				if !bytes.Equal(first, want) {
					t.Errorf("%s of %d and %d elements shares memory with what it was handed", name, m, n)
				}
				second := call(firstA, firstB)
				overwrite(first, 9)
				if !bytes.Equal(second, want) || !bytes.Equal(call(firstA, firstB), want) {
					t.Errorf("%s of %d and %d elements hangs on an earlier call", name, m, n)
				}
			}
		}
	}
}

// Rule 4: one list handed in twice, and pieces that overlap, are only read.
func TestListsThatShareMemory(t *testing.T) {
	whole := someList(source(), 40)
	before := bytes.Clone(whole)
	for name, call := range listCalls() {
		for _, c := range []struct{ a, b []byte }{{whole, whole}, {whole[:30], whole[5:]}, {whole[5:], whole[:30]}} {
			if !bytes.Equal(call(c.a, c.b), call(bytes.Clone(c.a), bytes.Clone(c.b))) {
				t.Errorf("%s of lists that share memory", name)
			}
			if !bytes.Equal(whole, before) {
				t.Fatalf("%s changes what it is handed", name)
			}
		}
	}
}

// P1.4: Dot is linear in its first list and in its second.
func TestDotIsBilinear(t *testing.T) {
	r := source()
	for _, n := range someLengths() {
		for range 50 {
			a, b, x := someList(r, n), someList(r, n), someList(r, n)
			c := byte(r.Uint32())
			if Dot(Sum(a, b), x) != Add(Dot(a, x), Dot(b, x)) || Dot(x, Sum(a, b)) != Add(Dot(x, a), Dot(x, b)) {
				t.Fatalf("Dot of sums of %d elements", n)
			}
			if Dot(Scale(c, a), x) != Mul(c, Dot(a, x)) || Dot(x, Scale(c, a)) != Mul(c, Dot(x, a)) {
				t.Fatalf("Dot of %d times a list of %d elements", c, n)
			}
			if Dot(AddScaled(a, c, b), x) != Add(Dot(a, x), Mul(c, Dot(b, x))) {
				t.Fatalf("Dot of AddScaled by %d of %d elements", c, n)
			}
		}
	}
}

// P1.4: AddScaled twice with one c, of lists of one length, leads back; so it does of a shorter second list.
func TestAddScaledTwiceLeadsBack(t *testing.T) {
	r := source()
	for _, n := range someLengths() {
		a, b := someList(r, n), someList(r, n)
		for c := range 256 {
			once := AddScaled(a, byte(c), b)
			if back := AddScaled(once, byte(c), b); !bytes.Equal(back, a) {
				t.Fatalf("AddScaled twice by %d of %d elements doesn't lead back", c, n)
			}
			short := b[:n/2]
			if back := AddScaled(AddScaled(a, byte(c), short), byte(c), short); !bytes.Equal(back, a) {
				t.Fatalf("AddScaled twice by %d of %d and %d elements doesn't lead back", c, n, n/2)
			}
		}
	}
}
