package round

import (
	"slices"
	"testing"
)

// P13.1: Missing goes over those that haven't answered in this stage, rising; over none in the stages that ask nobody.
func TestMissing(t *testing.T) {
	for nodes := 1; nodes <= maxWidth; nodes++ {
		for _, r := range everyStage(t, nodes, false) {
			for _, from := range missing(r) {
				holds(t, from >= 0 && from < nodes, "missing:", from, "of", nodes)
			}
			asks := r.Stage() == StageAsk || r.Stage() == StageTell
			holds(t, asks == (len(missing(r)) > 0), "stage", r.Stage(), "of", nodes, ": missing", missing(r))
		}
	}
	r, b := begun(t, 6, false, bal(1, 0)), bal(1, 0)
	for _, one := range []struct {
		from int
		want []int
	}{{3, []int{0, 1, 2, 4, 5}}, {5, []int{0, 1, 2, 4}}, {0, []int{1, 2, 4}}, {2, upTo(0, 6)}} {
		holds(t, r.Promise(one.from, b, none(), nil) && slices.Equal(missing(r), one.want), "missing:", missing(r))
	}
	holds(t, r.Accepted(2, b) && slices.Equal(missing(r), []int{0, 1, 3, 4, 5}), "missing:", missing(r))
}

// P13.1, rule 9: an iterator that is broken off anywhere goes over all of them again, as often as it is gone over.
func TestMissingBroken(t *testing.T) {
	for _, r := range everyStage(t, 9, false) {
		all, want := r.Missing(), missing(r)
		for stop := range len(want) + 1 {
			var got []int
			for from := range all {
				if len(got) == stop {
					break
				}
				got = append(got, from)
			}
			holds(t, slices.Equal(got, want[:stop]), "broken off behind", stop, ":", got)
			holds(t, slices.Equal(slices.Collect(all), want), "gone over again:", slices.Collect(all))
		}
	}
}

// P13.1, rule 9: an iterator goes over what stood when it was asked for, however the round went on since, also in the midst of it.
func TestMissingLater(t *testing.T) {
	r, b := newRound(t, 5, own(), false), bal(2, 2)
	first := r.Missing()
	begin(t, r, b)
	second := r.Missing()
	holds(t, r.Promise(1, b, none(), nil), "a promise")
	third := r.Missing()
	holds(t, r.Promise(0, b, none(), nil) && r.Promise(4, b, none(), nil) && r.Accepted(3, b), "answers")
	fourth := r.Missing()
	begin(t, r, bal(3, 3))
	fifth := r.Missing()
	for i, want := range [][]int{nil, {0, 1, 2, 3, 4}, {0, 2, 3, 4}, {0, 1, 2, 4}, {0, 1, 2, 3, 4}} {
		got := slices.Collect([]func(func(int) bool){first, second, third, fourth, fifth}[i])
		holds(t, slices.Equal(got, want), "iterator", i, ":", got, "in the place of", want)
	}
}

// P13.1, rule 9: the round goes on while it is gone over: each node that is missing answers, and the iterator goes on with the others all the same.
func TestMissingMeanwhile(t *testing.T) {
	for nodes := 1; nodes <= maxWidth; nodes++ {
		r, b := begun(t, nodes, false, bal(2, 2)), bal(2, 2)
		var asked, told []int
		for from := range r.Missing() {
			asked = append(asked, from)
			r.Promise(from, b, none(), nil)
		}
		holds(t, slices.Equal(asked, upTo(0, nodes)) && r.Stage() == StageTell, "asked:", asked, "stage", r.Stage())
		for from := range r.Missing() {
			told = append(told, from)
			r.Accepted(from, b)
		}
		holds(t, slices.Equal(told, upTo(0, nodes)) && r.Stage() == StageDone, "told:", told, "stage", r.Stage())
	}
	r := begun(t, 4, false, bal(2, 2))
	var got []int
	for from := range r.Missing() {
		got = append(got, from)
		begin(t, r, bal(3+from, 0))
	}
	holds(t, slices.Equal(got, upTo(0, 4)) && r.Begun() == 5, "gone over:", got, r.Begun())
}

// P13.1, rule 9: two goings over at once, of one iterator and of two, don't come into each other's way.
func TestMissingNested(t *testing.T) {
	r := begun(t, 5, false, bal(2, 2))
	holds(t, r.Promise(1, bal(2, 2), none(), nil), "a promise")
	all, other := r.Missing(), r.Missing()
	var got []int
	for a := range all {
		for b := range all {
			for c := range other {
				got = append(got, 100*a+10*b+c)
			}
		}
	}
	var want []int
	for _, a := range []int{0, 2, 3, 4} {
		for _, b := range []int{0, 2, 3, 4} {
			for _, c := range []int{0, 2, 3, 4} {
				want = append(want, 100*a+10*b+c)
			}
		}
	}
	holds(t, slices.Equal(got, want), "gone over:", got)
}
