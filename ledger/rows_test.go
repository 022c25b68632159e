package ledger

import (
	"bollard/api"
	"fmt"
	"math/rand/v2"
	"slices"
	"testing"
)

// pool is what drawn commands are made of: so many ids, buckets and keys. Few of them meet often.
type pool struct{ ids, buckets, keys int }

func pools() []pool { return []pool{{4, 1, 2}, {12, 2, 2}, {60, 2, 3}, {5000, 3, 4}} }

func (p pool) id(r *rand.Rand) api.Id {
	n := r.IntN(p.ids)
	return idOf(n%3, n/3%2, n/6)
}

func (p pool) parts(r *rand.Rand) []int {
	out := r.Perm(3)[:1+r.IntN(2)]
	for i := range out {
		out[i]++
	}
	slices.Sort(out)
	return out
}

// upload is mostly the Id and the key of an upload that some command of the ledger started.
func (p pool) upload(r *rand.Rand, l []api.Command, key string) (api.Id, string) {
	for _, i := range r.Perm(len(l)) {
		if l[i].Kind == api.CmdStart && r.IntN(8) > 0 {
			return l[i].Id, l[i].Key
		}
	}
	return p.id(r), key
}

// drawn is a command in form.
func (p pool) drawn(r *rand.Rand, l []api.Command) api.Command {
	id, bucket, key := p.id(r), fmt.Sprint("b0", r.IntN(p.buckets)), fmt.Sprint("k", r.IntN(p.keys))
	upload, its := p.upload(r, l, key)
	time, body := r.IntN(40), fmt.Sprint(r.IntN(50))
	switch r.IntN(16) {
	case 0, 1:
		return makes(id, bucket, time)
	case 2:
		return drops(id, bucket)
	case 3, 4, 5:
		return puts(id, bucket, key, body, time)
	case 6:
		return deletes(id, bucket, key)
	case 7, 8:
		return starts(id, bucket, key)
	case 9, 10:
		return parts(id, bucket, its, upload, 1+r.IntN(3), body)
	case 11:
		return completes(id, bucket, its, upload, time, p.parts(r)...)
	case 12:
		return aborts(id, bucket, its, upload)
	case 13:
		return rules(id, bucket, r.IntN(20))
	case 14:
		return expires(id, time)
	}
	return floors(id)
}

// raw is a row of drawn commands, in which an Id may stand more than once.
func (p pool) raw(r *rand.Rand, n int) []api.Command {
	var out []api.Command
	for range n {
		out = append(out, p.drawn(r, out))
	}
	return out
}

// times is how many commands of a ledger have the id.
func times(l []api.Command, id api.Id) int {
	n := 0
	for _, c := range l {
		if c.Id == id {
			n++
		}
	}
	return n
}

// putRow puts drawn commands one behind the other, and answers the ledgers from the empty one on; each Put is asked as P12.2 says.
func putRow(t *testing.T, r *rand.Rand, p pool, n int) [][]api.Command {
	t.Helper()
	all := [][]api.Command{nil}
	for range n {
		l := all[len(all)-1]
		c := p.drawn(r, l)
		was := times(l, c.Id) > 0
		agrees(t, l, c)
		m, place := put(t, l, c)
		holds(t, times(m, c.Id) == 1 && m[place-1].Id == c.Id, "Put of", c.Id, ": it is there", times(m, c.Id), "times")
		holds(t, was == (len(m) == len(l)) && (was || line(m[place-1]) == line(c)), "Put of", c.Id, "onto", len(l), ":", len(m))
		holds(t, Begins(l, m) && was == Begins(m, l), "Begins of the ledger ahead and the one behind")
		again := m
		for range 3 {
			stays(t, again, c, place)
			again, _ = put(t, again, c)
		}
		all = append(all, m)
	}
	return all
}

// P12.1, P12.2: over many drawn rows what is put is there once, however often it is put, and each ledger ahead is the beginning of each one behind.
func TestPutRows(t *testing.T) {
	r := source()
	longest := 0
	for i := range 80 {
		p := pools()[i%4]
		all := putRow(t, r, p, 40)
		last := all[len(all)-1]
		longest = max(longest, len(last))
		for k, l := range all {
			for _, m := range all[k:] {
				holds(t, Begins(l, m) && (len(l) == len(m)) == Begins(m, l), "Begins of the ledger ahead and one behind")
			}
			for _, c := range l {
				ahead, err := Place(l, c.Id)
				behind, other := Place(last, c.Id)
				holds(t, err == nil && other == nil && ahead == behind, "Place of", c.Id, ":", ahead, behind)
			}
		}
		for k, c := range last {
			stays(t, last, c, k+1)
		}
		holds(t, len(last) <= p.ids, "commands:", len(last))
	}
	holds(t, longest > 30, "the longest ledger:", longest)
}

// P12.3: what a command came to is told alike by the ledger that it was put onto and by every one that goes on, also on several ways.
func TestOutcomeRows(t *testing.T) {
	r := source()
	seen := map[int]int{}
	for i := range 40 {
		p := pools()[1+i%3]
		trunk := putRow(t, r, p, 25)
		l := trunk[len(trunk)-1]
		first, second := slices.Concat(l, p.raw(r, 12)), l
		for range 12 {
			second, _ = put(t, second, p.drawn(r, second))
		}
		for k, ahead := range trunk {
			for _, c := range ahead {
				want, err := Outcome(ahead, c.Id)
				holds(t, err == nil, "Outcome of", c.Id, ":", err)
				seen[want.Code]++
				for _, m := range [][]api.Command{trunk[min(k+1, len(trunk)-1)], l, first, second} {
					comesTo(t, m, c.Id, want)
				}
			}
		}
	}
	for _, code := range []int{api.CodeOK, api.CodeNoBucket, api.CodeNoUpload, api.CodeExists, api.CodeNotEmpty, api.CodeNoPart} {
		holds(t, seen[code] > 0, "no command came to", code)
	}
}

// P12.1: all calls against the other implementation, over drawn rows in which an Id may stand more than once.
func TestRawRows(t *testing.T) {
	r := source()
	for i := range 120 {
		p := pools()[i%4]
		l := p.raw(r, r.IntN(40))
		folds(t, l)
		for range 12 {
			agrees(t, l, p.drawn(r, l))
		}
		other := p.raw(r, r.IntN(6))
		for n := range len(l) + 1 {
			holds(t, begins(t, l[:n], l), "Begins of a beginning")
			begins(t, slices.Concat(l[:n], other), l)
			begins(t, l, slices.Concat(l[:n], other))
			begins(t, other, l[n:])
		}
		isGone(t, l, idOf(7, 7, 7))
	}
}

// P12.1: At of n is Fold of the first n, and goes on by the commands behind them.
func TestAtRows(t *testing.T) {
	r := source()
	for i := range 40 {
		l := pools()[i%4].raw(r, 30)
		for n := -2; n < 34; n++ {
			want := Fold(slices.Clone(l[:max(0, min(n, 30))]))
			holds(t, text(At(l, n)) == text(want), "At", n, ":", text(At(l, n)), "in the place of", text(want))
		}
	}
}

// P12.1, P12.2: all rows of few commands of a small choice, with Ids that stand once, twice and three times.
func TestAllRows(t *testing.T) {
	one, two := idOf(0, 0, 1), idOf(0, 1, 0)
	choice := []api.Command{makes(one, "aaa", 1), makes(two, "aaa", 1), puts(one, "aaa", "k", "x", 1), puts(two, "aaa", "k", "y", 2), drops(idOf(1, 0, 0), "aaa"), floors(two)}
	var goOn func(l []api.Command, left int)
	goOn = func(l []api.Command, left int) {
		folds(t, l)
		for _, c := range choice {
			agrees(t, l, c)
			if left > 0 {
				goOn(append(slices.Clone(l), c), left-1)
			}
		}
	}
	goOn(nil, 4)
}

// Rule 8: the same is answered of the same, whatever was asked in between.
func TestSameAgain(t *testing.T) {
	r := source()
	l := pools()[2].raw(r, 60)
	c := pools()[3].drawn(r, l)
	ask := func() string {
		m, n, err := Put(l, c)
		place, gone := Place(l, l[40].Id)
		o, none := Outcome(l, l[50].Id)
		return text(m) + text(Fold(l)) + text(At(l, 30)) + fmt.Sprint(n, err, place, gone, o, none, Begins(l, m), Newest(l, 1, 1))
	}
	want := ask()
	for range 20 {
		other := pools()[1].raw(r, 20)
		Fold(other)
		Put(other, c)
		Outcome(other, other[10].Id)
		holds(t, ask() == want, "the same is answered otherwise")
	}
}
