package disk

import (
	"fmt"
	"slices"
	"testing"
)

// kinds are rows of calls by which a drive comes to be of every kind: with "0", "1" and "2" there, or none of them.
func kinds() map[string][]step {
	few := []step{
		{call: "Write", name: "0", bytes: []byte{1}}, {call: "Sync", name: "0"}, {call: "Write", name: "0", bytes: []byte{2, 3}},
		{call: "Write", name: "1", bytes: []byte{4}}, {call: "Write", name: "2"}, {call: "Sync", name: "2"},
	}
	full, crash, lose := step{call: "Fill", n: 1}, step{call: "Crash"}, step{call: "Lose"}
	return map[string][]step{
		"new":              nil,
		"few":              few,
		"few, full":        append(slices.Clone(few), full),
		"few, crashed":     append(slices.Clone(few), crash),
		"few, lost":        append(slices.Clone(few), lose),
		"full":             {full},
		"full, lost":       append(slices.Clone(few), full, lose),
		"lost, full":       append(slices.Clone(few), lose, full),
		"full, crashed":    append(slices.Clone(few), full, crash),
		"crowded":          crowding(),
		"crowded, full":    append(crowding(), full),
		"crowded, crashed": append(crowding(), crash),
		"crowded, lost":    append(crowding(), lose),
	}
}

// everyCall is each call, with names of which files may be there, "a", of which none is, and one that no file may have.
func everyCall() []step {
	out := []step{{call: "Crash"}, {call: "Lose"}, {call: "Fill"}, {call: "Fill", n: 1}, {call: "Flip"}, {call: "Flip", n: 11}, {call: "Flip", n: -1}}
	names := []string{"0", "1", "2", "a", "", "a b"}
	for _, name := range names {
		out = append(out, step{call: "Write", name: name, bytes: []byte{8, 9}}, step{call: "Write", name: name})
		out = append(out, step{call: "Sync", name: name}, step{call: "Delete", name: name}, step{call: "Read", name: name})
		for _, to := range names {
			out = append(out, step{call: "Rename", name: name, to: to})
		}
	}
	return out
}

// P7.1, P7.2: every call on drives of every kind, twice, and what is there behind a crash.
func TestEveryCall(t *testing.T) {
	for kind, steps := range kinds() {
		for _, s := range everyCall() {
			p := newPair()
			for _, before := range steps {
				p.do(t, before)
			}
			p.do(t, s)
			p.same(t, fmt.Sprint(kind, ": ", s))
			p.do(t, s)
			p.do(t, step{call: "Write", name: "b", bytes: []byte{7}})
			p.same(t, fmt.Sprint(kind, ": twice ", s))
			p.do(t, step{call: "Crash"})
			p.same(t, fmt.Sprint(kind, ": twice ", s, " and a crash"))
		}
	}
}
