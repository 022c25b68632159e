package command

import (
	"bollard/api"
	"math"
	"strings"
	"testing"
)

// bucketIs asks every call about a bucket's name.
func bucketIs(t *testing.T, name string, want bool) {
	t.Helper()
	holds(t, GoodBucket(name) == want, "GoodBucket of", text(name))
	c := only(api.CmdDrop, fulls()[1])
	c.Bucket = name
	judged(t, c, want)
}

func keyIs(t *testing.T, key string, want bool) {
	t.Helper()
	holds(t, GoodKey(key) == want, "GoodKey of", text(key))
	c := only(api.CmdDelete, fulls()[1])
	c.Key = key
	judged(t, c, want)
}

func etagIs(t *testing.T, etag string, want bool) {
	t.Helper()
	for _, kind := range []int{api.CmdPut, api.CmdPart} {
		c := only(kind, fulls()[1])
		c.Piece.Etag = etag
		judged(t, c, want)
	}
}

// with is the text with another byte at a place.
func with(s string, place int, c byte) string { return s[:place] + string([]byte{c}) + s[place+1:] }

// places are the first one, the second, one in the middle, the last but one and the last.
func places(s string) []int {
	n := len(s)
	return []int{0, min(1, n-1), n / 2, max(0, n-2), n - 1}
}

// P10.1: the chapter's names.
func TestExampleNames(t *testing.T) {
	for name, want := range map[string]bool{"ab": false, "-ab": false, "a_b": false, "a.b": true, "aaa": true, "000": true, "a-b": true, "a--..-b": true, "": false} {
		bucketIs(t, name, want)
	}
}

// P10.1: lengths of names, keys and etags on both sides of each that is told, and far beyond.
func TestLengths(t *testing.T) {
	for n := range 300 {
		bucketIs(t, strings.Repeat("b", n), n >= 3 && n <= 63)
		keyIs(t, strings.Repeat("k", n), n >= 1 && n <= 200)
		etagIs(t, strings.Repeat("e", n), n == 64)
	}
	for _, n := range []int{256 + 64, 1 << 16, 1<<16 + 64, 1 << 20} {
		bucketIs(t, strings.Repeat("b", n), false)
		keyIs(t, strings.Repeat("k", n), false)
		etagIs(t, strings.Repeat("e", n), false)
	}
}

// P10.1: every byte at each kind of place in names of the least, of some and of the greatest length.
func TestBucketBytes(t *testing.T) {
	for _, n := range []int{3, 4, 20, 62, 63} {
		name := strings.Repeat("b", n)
		for _, place := range places(name) {
			for c := range 256 {
				end := strings.IndexByte("abcdefghijklmnopqrstuvwxyz0123456789", byte(c)) >= 0
				inner := place > 0 && place < n-1 && (c == '-' || c == '.')
				bucketIs(t, with(name, place, byte(c)), end || inner)
			}
		}
	}
}

// P10.1: marks at both ends, and names of marks alone.
func TestBucketMarks(t *testing.T) {
	for _, name := range []string{"-a-", ".a.", "-a.", "---", "...", "-.-", "a-", ".a", "-", ".", "--", "a..", "--a"} {
		bucketIs(t, name, false)
	}
	for _, name := range []string{"a-a", "0.0", "a" + strings.Repeat("-", 61) + "0", "9" + strings.Repeat(".", 61) + "z"} {
		bucketIs(t, name, true)
	}
}

// P10.1: every byte at each kind of place in keys of the least, of some and of the greatest length.
func TestKeyBytes(t *testing.T) {
	for _, n := range []int{1, 2, 3, 30, 199, 200} {
		key := strings.Repeat("k", n)
		for _, place := range places(key) {
			for c := range 256 {
				keyIs(t, with(key, place, byte(c)), c >= 32 && c <= 126)
			}
		}
	}
}

// P10.1: every byte at each kind of place in an etag.
func TestEtagBytes(t *testing.T) {
	for _, place := range places(helloEtag) {
		for c := range 256 {
			etagIs(t, with(helloEtag, place, byte(c)), strings.IndexByte("0123456789abcdef", byte(c)) >= 0)
		}
	}
}

// P10.1: texts whose runes or bytes are more than they look, in the places of all three.
func TestOtherTexts(t *testing.T) {
	for _, s := range []string{"äbc", "aäc", "abä", "é", "a\x00b", "abc\x00", "\xff\xfe\xfd", "世界世界", "\u212aabc", "ſſſ", "a b", "ABC", "aBc"} {
		bucketIs(t, s, false)
		etagIs(t, s+helloEtag[len(s):], false)
		keyIs(t, s, s == "a b" || s == "ABC" || s == "aBc")
	}
	keyIs(t, strings.Repeat("ä", 100), false)
	keyIs(t, strings.Repeat(" ", 200), true)
	etagIs(t, strings.ToUpper(helloEtag), false)
	etagIs(t, strings.Repeat("ä", 32), false)
}

// edge is a number, and whether it is one that is told.
type edge struct {
	number int
	good   bool
}

// edges are both sides of least and of most, and the ends of the language's numbers.
func edges(least, most int) []edge {
	return []edge{
		{least - 1, false}, {least, true}, {least + 1, true}, {most - 1, true}, {most, true}, {most + 1, false}, {most + 2, false},
		{math.MinInt, false}, {math.MinInt + 1, false}, {math.MaxInt - 1, false}, {math.MaxInt, false},
		{least - 1<<32, false}, {math.MinInt32, false}, {math.MinInt + most, false},
	}
}

// edgeId is an id whose numbers all stand at an edge.
type edgeId struct {
	id   api.Id
	good bool
}

func edgeIds() []edgeId {
	var out []edgeId
	for _, node := range edges(0, 15) {
		for _, boot := range edges(0, maxTime) {
			for _, seq := range edges(0, maxTime) {
				out = append(out, edgeId{idOf(node.number, boot.number, seq.number), node.good && boot.good && seq.good})
			}
		}
	}
	return out
}

// P10.1: ids with each number at its edges, as they are asked alone, as a command's Id, with its blob, and as its Upload.
func TestIds(t *testing.T) {
	for _, one := range edgeIds() {
		holds(t, GoodId(one.id) == one.good, "GoodId of", one.id)
		judged(t, api.Command{Kind: api.CmdFloor, Id: one.id}, one.good)
		c := only(api.CmdPut, fulls()[1])
		c.Id, c.Piece.Blob = one.id, one.id
		judged(t, c, one.good)
		c = only(api.CmdAbort, fulls()[1])
		c.Upload = one.id
		judged(t, c, one.good)
	}
	for node := -20; node < 40; node++ {
		holds(t, GoodId(idOf(node, 1, 1)) == (node >= 0 && node <= 15), "GoodId of node", node)
	}
}
