package ledger

import (
	"bollard/api"
	"math"
	"math/rand/v2"
	"slices"
	"strings"
	"testing"
)

// anyNumber is any number, small ones often.
func anyNumber(r *rand.Rand) int {
	return []int{0, 0, 1, 1, 2, -1, -2, 16, 17, maxTime, maxTime + 1, math.MaxInt, math.MinInt, int(r.Uint64())}[r.IntN(14)]
}

func anyText(r *rand.Rand) string {
	return []string{"", "aaa", "bbb", "k", "a b", "\x00", "\xff\xfe", "é", strings.Repeat("x", 300)}[r.IntN(9)]
}

func anyId(r *rand.Rand) api.Id { return idOf(anyNumber(r), anyNumber(r), anyNumber(r)) }

// anyCommand is mostly in no form.
func anyCommand(r *rand.Rand) api.Command {
	var numbers []int
	for range r.IntN(4) {
		numbers = append(numbers, anyNumber(r))
	}
	return api.Command{
		Kind: r.IntN(14) - 1, Id: anyId(r), Bucket: anyText(r), Key: anyText(r), Upload: anyId(r),
		Piece: api.Piece{Blob: anyId(r), Size: anyNumber(r), Etag: anyText(r)}, Part: anyNumber(r), Parts: numbers, Time: anyNumber(r), Days: anyNumber(r),
	}
}

// P12.1, rules 1 and 4: Put, Place, Begins and Newest of ledgers of anything at all answer what is told; Fold, At and Outcome, of which nothing is promised there, end; none changes what it is handed.
func TestAnything(t *testing.T) {
	r := source()
	for range 4000 {
		var l []api.Command
		for range r.IntN(12) {
			l = append(l, anyCommand(r))
		}
		c := anyCommand(r)
		if len(l) > 0 && r.IntN(2) > 0 {
			c.Id = l[r.IntN(len(l))].Id
		}
		before := inside(l, c)
		agrees(t, l, c)
		cut := r.IntN(len(l) + 1)
		holds(t, begins(t, l[:cut], l), "Begins of a beginning")
		begins(t, append(slices.Clone(l[:cut]), c), l)
		Fold(l)
		At(l, anyNumber(r))
		if o, err := Outcome(l, c.Id); err != nil {
			holds(t, err == api.ErrGone && o == api.Outcome{} && times(l, c.Id) == 0, "Outcome of", c.Id, ":", o, err)
		}
		holds(t, inside(l, c) == before, "what is handed in is changed")
	}
}
