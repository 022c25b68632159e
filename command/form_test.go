package command

import (
	"bollard/api"
	"math"
	"slices"
	"strings"
	"testing"
)

// change sets a field to something: to what is good there, or not, and zero, or not.
type change struct {
	field      string
	good, zero bool
	set        func(c *api.Command)
}

func bucketChanges() []change {
	var out []change
	for _, name := range []string{"", "ab", "abc", strings.Repeat("x", 63), strings.Repeat("x", 64), "-bc", "ab.", "a_b", "a b", "Abc", "\x00"} {
		out = append(out, change{"Bucket", plainGood("Bucket", api.Command{Bucket: name}), name == "", func(c *api.Command) { c.Bucket = name }})
	}
	return out
}

func keyChanges() []change {
	var out []change
	for _, key := range []string{"", " ", "~", "k", strings.Repeat("x", 200), strings.Repeat("x", 201), "\x1f", "\x7f", "a\nb", "\x00"} {
		out = append(out, change{"Key", plainKey(key), key == "", func(c *api.Command) { c.Key = key }})
	}
	return out
}

func uploadChanges() []change {
	var out []change
	for _, one := range edgeIds() {
		out = append(out, change{"Upload", one.good, one.id == api.Id{}, func(c *api.Command) { c.Upload = one.id }})
	}
	return out
}

// pieceChanges have the command's Id as their Blob, but for those that say otherwise.
func pieceChanges() []change {
	piece := func(good bool, size int, etag string) change {
		return change{"Piece", good, false, func(c *api.Command) { c.Piece = api.Piece{Blob: c.Id, Size: size, Etag: etag} }}
	}
	out := []change{
		{"Piece", false, true, func(c *api.Command) { c.Piece = api.Piece{} }},
		{"Piece", false, false, func(c *api.Command) { c.Piece = api.Piece{Blob: idOf(0, 0, 1)} }},
		{"Piece", false, false, func(c *api.Command) { c.Piece = api.Piece{Size: 1} }},
		{"Piece", false, false, func(c *api.Command) { c.Piece = api.Piece{Size: -1} }},
		{"Piece", false, false, func(c *api.Command) { c.Piece = api.Piece{Etag: "0"} }},
		piece(true, 5, helloEtag), piece(true, 5, strings.Repeat("0", 64)),
		piece(false, 5, ""), piece(false, 5, helloEtag[1:]), piece(false, 5, helloEtag+"0"),
		piece(false, 5, "g"+helloEtag[1:]), piece(false, 5, strings.ToUpper(helloEtag)),
	}
	for _, size := range edges(0, 1024) {
		out = append(out, piece(size.good, size.number, helloEtag))
	}
	return out
}

func partChanges() []change {
	out := []change{{"Part", false, true, func(c *api.Command) { c.Part = 0 }}}
	for _, one := range edges(1, 16) {
		out = append(out, change{"Part", one.good, one.number == 0, func(c *api.Command) { c.Part = one.number }})
	}
	return out
}

func partsChanges() []change {
	var out []change
	all := numbersTo(16)
	for _, parts := range [][]int{{1}, {16}, {1, 2}, {1, 16}, {15, 16}, {2, 9, 10}, all[1:], all[:15], all} {
		out = append(out, change{"Parts", true, false, func(c *api.Command) { c.Parts = slices.Clone(parts) }})
	}
	for _, parts := range [][]int{nil, {}, make([]int, 0, 3)} {
		out = append(out, change{"Parts", false, true, func(c *api.Command) { c.Parts = parts }})
	}
	for _, parts := range [][]int{
		{0}, {-1}, {17}, {math.MinInt}, {math.MaxInt}, {0, 1}, {0, 1, 2}, {-1, 1}, {1, 17}, {16, 17}, {1, 2, 17},
		{1, 1}, {16, 16}, {1, 2, 2}, {1, 1, 2}, {1, 2, 2, 3}, {2, 1}, {16, 15}, {1, 3, 2}, {2, 1, 3}, {3, 2, 1}, {1, 2, 1}, {1, 2, 0},
		numbersTo(17), append(numbersTo(16), 16), append([]int{1}, all...), append([]int{0}, all...), append(numbersTo(16), 1), make([]int, 16), make([]int, 17), numbersTo(300),
	} {
		out = append(out, change{"Parts", false, false, func(c *api.Command) { c.Parts = slices.Clone(parts) }})
	}
	return out
}

func timeChanges() []change {
	var out []change
	for _, one := range edges(0, maxTime) {
		out = append(out,
			change{"Time", one.good, one.number == 0, func(c *api.Command) { c.Time = one.number }},
			change{"Days", one.good, one.number == 0, func(c *api.Command) { c.Days = one.number }})
	}
	return out
}

// smallChanges are all but those of Upload, of which there are many.
func smallChanges() []change {
	return slices.Concat(bucketChanges(), keyChanges(), pieceChanges(), partChanges(), partsChanges(), timeChanges())
}

// P10.1: each kind, with each field that it has at its edges, and each other one zero and not.
func TestFields(t *testing.T) {
	for _, sample := range samples() {
		judged(t, sample, true)
		has, _ := plainFields(sample.Kind)
		for _, one := range append(smallChanges(), uploadChanges()...) {
			c := sample
			one.set(&c)
			want := one.zero
			if slices.Contains(has, one.field) {
				want = one.good
			}
			if one.field == "Upload" {
				holds(t, Check(c) == nil == want && plainForm(c) == want, "Check of", text(c))
				continue
			}
			judged(t, c, want)
		}
	}
}

// P10.1: a kind that there isn't, with the fields of each that there is, with all, and with none.
func TestKinds(t *testing.T) {
	all := append(samples(), fulls()...)
	for _, kind := range []int{0, -1, 12, 13, 127, 128, 256, 257, -11, -256, 1 << 32, 1<<32 + 1, math.MinInt, math.MinInt + 1, math.MaxInt} {
		judged(t, api.Command{Kind: kind}, false)
		judged(t, api.Command{Kind: kind, Id: idOf(1, 2, 3)}, false)
		for _, c := range all {
			c.Kind = kind
			judged(t, c, false)
		}
	}
	for kind := 1; kind <= 11; kind++ {
		for _, full := range fulls() {
			full.Kind = kind
			judged(t, full, false)
		}
	}
}

// P10.1: the fields of each kind under each kind: they are in form, if those that are left over may be zero, and none is there too many.
func TestOtherKinds(t *testing.T) {
	full := fulls()[1]
	for from := 1; from <= 11; from++ {
		for to := 1; to <= 11; to++ {
			c := only(from, full)
			c.Kind = to
			ofFrom, _ := plainFields(from)
			ofTo, _ := plainFields(to)
			want := true
			for _, name := range ofFrom {
				want = want && slices.Contains(ofTo, name)
			}
			for _, name := range ofTo {
				want = want && (slices.Contains(ofFrom, name) || slices.Contains([]string{"Time", "Days", "Upload"}, name))
			}
			judged(t, c, want)
		}
	}
}

// P10.1: of each kind the Id at its edges, the Blob going with it where there is one.
func TestIdOfEachKind(t *testing.T) {
	for _, c := range middles() {
		for _, one := range edgeIds() {
			c.Id = one.id
			if c.Piece.Etag != "" {
				c.Piece.Blob = one.id
			}
			holds(t, Check(c) == nil == one.good && plainForm(c) == one.good, "Check of", text(c))
		}
	}
}

// P10.1: a piece whose blob isn't the Id, though it is good; one whose blob is the Id, though it isn't good.
func TestOtherBlob(t *testing.T) {
	for _, kind := range []int{api.CmdPut, api.CmdPart} {
		for _, full := range fulls() {
			for _, blob := range []api.Id{idOf(0, 0, 0), idOf(1, 2, 3), idOf(1, 2, 4), idOf(1, 3, 3), idOf(2, 2, 3), idOf(3, 2, 1), idOf(15, maxTime, maxTime), full.Upload} {
				c := only(kind, full)
				c.Piece.Blob = blob
				judged(t, c, blob == c.Id)
			}
		}
	}
	c := only(api.CmdPart, fulls()[1])
	c.Upload = c.Id
	judged(t, c, true)
	c.Upload, c.Piece.Blob = idOf(7, 7, 7), idOf(7, 7, 7)
	judged(t, c, false)
	c.Id = idOf(16, 7, 7)
	c.Piece.Blob = c.Id
	judged(t, c, false)
}

// P10.1: two fields at their edges at once, so that none is asked in another's place.
func TestTwoFields(t *testing.T) {
	for _, sample := range middles() {
		has, _ := plainFields(sample.Kind)
		for _, first := range smallChanges() {
			for _, second := range smallChanges() {
				if first.field == second.field {
					continue
				}
				want := true
				c := sample
				for _, one := range []change{first, second} {
					one.set(&c)
					want = want && (one.good && slices.Contains(has, one.field) || one.zero && !slices.Contains(has, one.field))
				}
				if Check(c) == nil != want {
					t.Fatal("Check of", text(c))
				}
			}
		}
	}
}

// P10.1: a command that is nothing, and a bucket's with a key.
func TestNotInForm(t *testing.T) {
	judged(t, api.Command{}, false)
	judged(t, api.Command{Kind: api.CmdMake}, false)
	judged(t, api.Command{Kind: api.CmdMake, Bucket: "aaa"}, true)
	judged(t, api.Command{Kind: api.CmdMake, Bucket: "aaa", Key: "k"}, false)
	judged(t, api.Command{Kind: api.CmdExpire}, true)
	judged(t, api.Command{Kind: api.CmdFloor}, true)
	judged(t, api.Command{Kind: api.CmdRule, Bucket: "aaa"}, true)
	judged(t, api.Command{Kind: api.CmdAbort, Bucket: "aaa", Key: "k"}, true)
}
