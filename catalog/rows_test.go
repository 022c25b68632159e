package catalog

import (
	"bollard/api"
	"fmt"
	"math/rand/v2"
	"slices"
	"testing"
)

// pool is what drawn commands are made of: so many buckets, keys and ids, and how often each Kind is drawn.
type pool struct {
	buckets, keys, ids, times int
	often                     [12]int
}

// pools are small ones, in which commands often meet what is there, and greater ones, each of which comes to a limit.
func pools() []pool {
	return []pool{
		{2, 3, 4, 12, [12]int{0, 4, 3, 6, 3, 6, 10, 6, 2, 3, 2, 3}},
		{5, 8, 12, 40, [12]int{0, 6, 2, 12, 4, 10, 16, 8, 3, 3, 1, 4}},
		{20, 4, 30, 100, [12]int{0, 40, 4, 8, 3, 8, 8, 5, 2, 3, 1, 12}},
		{2, 24, 40, maxTime, [12]int{0, 3, 1, 2, 2, 40, 20, 3, 3, 1, 1, 1}},
	}
}

// crowd is a pool that comes to MaxObjects.
func crowd() pool { return pool{1, 300, 4, maxTime, [12]int{0, 1, 1, 120, 6, 10, 16, 12, 1, 2, 0, 1}} }

func (p pool) id(r *rand.Rand) api.Id {
	n := r.IntN(p.ids)
	return idOf(n%5, n/5%3, n/15*100)
}

func (p pool) kind(r *rand.Rand) int {
	sum := 0
	for _, n := range p.often {
		sum += n
	}
	left := r.IntN(sum)
	for kind, n := range p.often {
		if left < n {
			return kind
		}
		left -= n
	}
	return 0
}

func (p pool) parts(r *rand.Rand) []int {
	out := r.Perm(4)[:1+r.IntN(3)]
	for i := range out {
		out[i]++
	}
	slices.Sort(out)
	return out
}

// drawn is a command in form; one for an upload is mostly for one that is there, and with parts of it.
func (p pool) drawn(r *rand.Rand, c api.Catalog) api.Command {
	kind := p.kind(r)
	bucket, key, upload := fmt.Sprint("b", 10+r.IntN(p.buckets)), fmt.Sprint("k", r.IntN(p.keys)), p.id(r)
	numbers := p.parts(r)
	if b, there := Bucket(c, bucket); there && len(b.Uploads) > 0 && r.IntN(5) > 0 {
		u := b.Uploads[r.IntN(len(b.Uploads))]
		upload = u.Id
		if r.IntN(8) > 0 {
			key = u.Key
		}
		if kind == api.CmdComplete && len(u.Parts) > 0 && r.IntN(2) > 0 {
			numbers = []int{u.Parts[r.IntN(len(u.Parts))].Number}
		}
	}
	if kind == api.CmdStart || kind == api.CmdPut {
		key = fmt.Sprint("k", r.IntN(p.keys))
	}
	body, time := fmt.Sprint(r.IntN(1000)), r.IntN(p.times)
	switch kind {
	case api.CmdMake:
		return makes(bucket, time)
	case api.CmdDrop:
		return drops(bucket)
	case api.CmdPut:
		return puts(bucket, key, p.id(r), body, time)
	case api.CmdDelete:
		return deletes(bucket, key)
	case api.CmdStart:
		return starts(bucket, key, p.id(r))
	case api.CmdPart:
		return parts(bucket, key, upload, 1+r.IntN(4)*r.IntN(2), p.id(r), body)
	case api.CmdComplete:
		return completes(bucket, key, upload, time, numbers...)
	case api.CmdAbort:
		return aborts(bucket, key, upload)
	case api.CmdRule:
		return rules(bucket, r.IntN(p.times)*r.IntN(2))
	case api.CmdExpire:
		return expires(r.IntN(2 * p.times))
	}
	return floors(p.id(r))
}

// result is what a command came to: a Kind and a code.
type result struct{ kind, code int }

// row applies drawn commands one by one, each asked as all promises say, and counts what they came to.
func row(t *testing.T, r *rand.Rand, p pool, n int, seen map[result]int) {
	t.Helper()
	var c api.Catalog
	for i := range n {
		x := p.drawn(r, c)
		if x.Kind == api.CmdExpire && x.Time > maxTime {
			x.Time = maxTime
		}
		d, o := applied(t, c, x)
		seen[result{x.Kind, o.Code}]++
		c = d
		if i%16 == 0 {
			asks(t, c)
			holds(t, slices.Equal(slices.Collect(Blobs(c)), plainBlobs(c)), "Blobs of", text(c))
			leadsBack(t, r, c)
		}
	}
}

// leadsBack asks P11.3 of a key that isn't there, in a bucket that is.
func leadsBack(t *testing.T, r *rand.Rand, c api.Catalog) {
	t.Helper()
	for _, b := range c.Buckets {
		key := fmt.Sprint("k", r.IntN(200), "x")
		if len(b.Objects) < 128 {
			d := on(t, c, puts(b.Name, key, idOf(0, 0, 0), "x", 1), deletes(b.Name, key))
			holds(t, same(c, d), "Put and Delete lead to", text(d))
		}
	}
}

// P11.1 to P11.4: many drawn rows of commands; all that a Kind can come to is among them.
func TestRows(t *testing.T) {
	r, seen := source(), map[result]int{}
	for i := range 120 {
		row(t, r, pools()[i%4], 150, seen)
	}
	for range 3 {
		row(t, r, crowd(), 500, seen)
	}
	for kind, codes := range map[int][]int{
		api.CmdMake: {0, 4, 7}, api.CmdDrop: {0, 1, 5}, api.CmdPut: {0, 1, 7}, api.CmdDelete: {0, 1}, api.CmdStart: {0, 1, 7}, api.CmdPart: {0, 1, 3},
		api.CmdComplete: {0, 1, 3, 6, 7}, api.CmdAbort: {0, 1, 3}, api.CmdRule: {0, 1}, api.CmdExpire: {0}, api.CmdFloor: {0},
	} {
		for _, code := range codes {
			holds(t, seen[result{kind, code}] > 0, "no command of Kind", kind, "came to", code)
		}
	}
}

// P11.1: all rows of few commands of a small choice.
func TestAllRows(t *testing.T) {
	up := idOf(0, 0, 5)
	choice := []api.Command{
		makes("aaa", 1), drops("aaa"), puts("aaa", "k", idOf(1, 1, 1), "x", 1), deletes("aaa", "k"), starts("aaa", "k", up),
		parts("aaa", "k", up, 1, idOf(1, 1, 2), "y"), completes("aaa", "k", up, 2, 1), aborts("aaa", "k", up), rules("aaa", 1), expires(2),
	}
	var goOn func(c api.Catalog, left int)
	goOn = func(c api.Catalog, left int) {
		if left == 0 {
			return
		}
		for _, x := range choice {
			d, _ := applied(t, c, x)
			goOn(d, left-1)
		}
	}
	goOn(made(t, makes("aaa", 0), starts("aaa", "k", up)), 4)
	goOn(api.Catalog{}, 3)
}

// Rule 8: the same commands make the same, whatever was made in between.
func TestSameAgain(t *testing.T) {
	r := source()
	var c, d api.Catalog
	var all []api.Command
	for range 300 {
		x := pools()[1].drawn(r, c)
		all = append(all, x)
		c, _ = Apply(c, x)
	}
	for i, x := range all {
		d, _ = Apply(d, x)
		Apply(full(t), all[len(all)-1-i])
	}
	holds(t, same(c, d), "the same commands make", text(c), "and", text(d))
}
