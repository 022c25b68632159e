package round

import (
	"bollard/api"
	"math"
	"slices"
	"testing"
)

// calls are the two by which a node's answer comes; each with the stage in which it counts.
func calls() map[string]struct {
	stage int
	call  func(r *Round, from int, b api.Ballot) bool
} {
	return map[string]struct {
		stage int
		call  func(r *Round, from int, b api.Ballot) bool
	}{
		"Promise":  {1, func(r *Round, from int, b api.Ballot) bool { return r.Promise(from, b, none(), nil) }},
		"Accepted": {2, (*Round).Accepted},
	}
}

// asked are ballots that are asked of a round whose ballot is {7, 3}: its own, older and newer ones, by Round and by Node alone, and such as aren't legal.
func asked() []api.Ballot {
	return []api.Ballot{bal(7, 3), none(), bal(7, 2), bal(7, 4), bal(6, 3), bal(8, 3), bal(3, 7), bal(6, 15), bal(8, 0), bal(1, 0), bal(maxTime, 15), bal(-7, 3), bal(7, -3), bal(7, 19), bal(math.MaxInt, math.MinInt)}
}

// P13.1, rule 3: Promise and Accepted in each stage, with its ballot and others, from nodes below 0, of the round, and above; what is refused changes nothing, what is taken makes one less missing.
func TestAnswers(t *testing.T) {
	taken := 0
	for name, one := range calls() {
		for _, nodes := range []int{1, 2, 3, 4, 5, 15, 16} {
			for _, stage := range slices.Concat(everyStage(t, nodes, false), everyStage(t, nodes, true)) {
				for _, b := range asked() {
					for _, from := range []int{math.MinInt, -16, -1, 0, 1, nodes - 1, nodes, nodes + 1, 15, 16, 17, 64, math.MaxInt} {
						r := as(stage)
						call := func() bool { return one.call(r, from, b) }
						if r.Stage() != one.stage || b != bal(7, 3) || from < 0 || from >= nodes || !slices.Contains(missing(r), from) {
							refuses(t, r, name, call)
							continue
						}
						left := missing(r)
						holds(t, call(), name, "of", from, "with", b, "is refused")
						taken++
						if r.Stage() == one.stage {
							want := slices.DeleteFunc(left, func(node int) bool { return node == from })
							holds(t, slices.Equal(missing(r), want), name, "of", from, ": missing", missing(r))
						}
						refuses(t, r, name+" again", call)
					}
				}
			}
		}
	}
	holds(t, taken > 100, "answers that were taken:", taken)
}

// orders are some rows of all nodes: rising, falling, and drawn ones.
func orders(nodes int) [][]int {
	r := source()
	falling := upTo(0, nodes)
	slices.Reverse(falling)
	return [][]int{upTo(0, nodes), falling, r.Perm(nodes), r.Perm(nodes), r.Perm(nodes)}
}

// P13.1, P13.2: with each number of nodes as many answers as half of them leave the stage, one more ends it; answers that come twice don't count twice, and a node that promised may accept, as may one that didn't.
func TestHalf(t *testing.T) {
	for nodes := 1; nodes <= maxWidth; nodes++ {
		for _, promises := range orders(nodes) {
			for _, accepts := range orders(nodes) {
				r, b := begun(t, nodes, false, bal(2, 1)), bal(2, 1)
				gather(t, r, promises, StageTell, func(from int) bool { return r.Promise(from, b, bal(1, 1), row(3)) })
				tells(t, r, 2, b, 1, 2, upTo(0, nodes), behind(row(3), own()))
				gather(t, r, accepts, StageDone, func(from int) bool { return r.Accepted(from, b) })
				tells(t, r, 3, b, 1, 2, nil, behind(row(3), own()))
			}
		}
	}
}

// gather lets nodes answer, each of them twice, and asks that the stage goes on at one more than half, no sooner and no later.
func gather(t *testing.T, r *Round, order []int, next int, call func(from int) bool) {
	t.Helper()
	nodes := len(order)
	for i, from := range order[:nodes/2] {
		holds(t, call(from), "the answer of", from)
		refuses(t, r, "a second answer", func() bool { return call(from) })
		want := slices.Sorted(slices.Values(order[i+1:]))
		holds(t, r.Stage() == next-1 && slices.Equal(missing(r), want), i+1, "of", nodes, "answers: stage", r.Stage(), "missing", missing(r))
	}
	holds(t, call(order[nodes/2]) && r.Stage() == next, nodes/2+1, "of", nodes, "answers: stage", r.Stage())
	for _, from := range order {
		refuses(t, r, "a late answer", func() bool { return call(from) })
	}
}

// P13.1: a promise counts in StageAsk alone and an accepting in StageTell alone, even if all nodes send them.
func TestOtherStage(t *testing.T) {
	for nodes := 1; nodes <= maxWidth; nodes++ {
		b := bal(7, 3)
		r, asks, tells := newRound(t, nodes, own(), false), begun(t, nodes, false, b), promised(t, nodes, false, b, nil)
		for from := range nodes {
			refuses(t, r, "a promise ahead of the first Begin", func() bool { return r.Promise(from, none(), bal(1, 1), row(1)) })
			refuses(t, r, "an accepting ahead of the first Begin", func() bool { return r.Accepted(from, none()) })
			refuses(t, asks, "an accepting in StageAsk", func() bool { return asks.Accepted(from, b) })
			refuses(t, tells, "a promise in StageTell", func() bool { return tells.Promise(from, b, bal(6, 6), row(1, 2)) })
		}
	}
}

// P13.1, rule 3: a promise that is refused leaves no ballot and no ledger behind, however new they are.
func TestRefusedPromise(t *testing.T) {
	r, b := begun(t, 5, false, bal(7, 3)), bal(7, 3)
	holds(t, r.Promise(1, b, bal(2, 2), row(1)), "a promise")
	for _, from := range []int{-1, 1, 5, 16, math.MaxInt} {
		refuses(t, r, "a promise", func() bool { return r.Promise(from, b, bal(6, 6), row(8, 9)) })
	}
	for _, other := range asked()[1:] {
		refuses(t, r, "a promise of another ballot", func() bool { return r.Promise(0, other, bal(6, 6), row(8, 9)) })
	}
	holds(t, r.Promise(0, b, bal(1, 1), row(5, 6)) && r.Promise(4, b, none(), row(7)), "promises")
	tells(t, r, 2, b, 1, 2, upTo(0, 5), behind(row(1), own()))
}
