package ledger

import (
	"bollard/api"
	"math"
	"reflect"
	"slices"
	"testing"
)

// leaves are the numbers and texts of a command, but Parts.
func leaves(v reflect.Value) []reflect.Value {
	var out []reflect.Value
	for i := range v.NumField() {
		switch v.Field(i).Kind() {
		case reflect.Struct:
			out = append(out, leaves(v.Field(i))...)
		case reflect.Int, reflect.String:
			out = append(out, v.Field(i))
		}
	}
	return out
}

// leaf is one number or text of a command.
func leaf(c *api.Command, i int) reflect.Value { return leaves(reflect.ValueOf(c).Elem())[i] }

// changedNumbers are commands each of which has another number in one field.
func changedNumbers(c api.Command, i int) []api.Command {
	var out []api.Command
	old := leaf(&c, i).Int()
	for _, n := range []int64{old + 1, old - 1, -old, 0, old ^ 1<<40, math.MaxInt, math.MinInt} {
		d := c
		leaf(&d, i).SetInt(n)
		if n != old {
			out = append(out, d)
		}
	}
	return out
}

// changedTexts are commands each of which has another text in one field.
func changedTexts(c api.Command, i int) []api.Command {
	var out []api.Command
	old := leaf(&c, i).String()
	for _, s := range []string{old + "x", old + " ", old + "\x00", "x" + old, old[:max(1, len(old))-1], "", "x" + old[min(1, len(old)):]} {
		d := c
		leaf(&d, i).SetString(s)
		if s != old {
			out = append(out, d)
		}
	}
	return out
}

// changedParts are commands each of which has other Parts.
func changedParts(c api.Command) []api.Command {
	all := [][]int{append(slices.Clone(c.Parts), 0), append(slices.Clone(c.Parts), 7), append([]int{0}, c.Parts...)}
	for i := range c.Parts {
		other := slices.Clone(c.Parts)
		other[i]++
		all = append(all, other, c.Parts[:i:i], slices.Delete(slices.Clone(c.Parts), i, i+1))
	}
	if len(c.Parts) > 1 {
		other := slices.Clone(c.Parts)
		slices.Reverse(other)
		all = append(all, other)
	}
	var out []api.Command
	for _, p := range all {
		d := c
		d.Parts = p
		out = append(out, d)
	}
	return out
}

// changed are commands each of which differs from the given one in one field alone, every field among them.
func changed(c api.Command) []api.Command {
	out := changedParts(c)
	for i := range leaves(reflect.ValueOf(&c).Elem()) {
		if leaf(&c, i).Kind() == reflect.Int {
			out = append(out, changedNumbers(c, i)...)
		} else {
			out = append(out, changedTexts(c, i)...)
		}
	}
	return out
}

// P12.1: Begins of ledgers that differ in one field of one command, wherever it stands, is false both ways; ahead of that command they are alike.
func TestBeginsChanged(t *testing.T) {
	base := odd(3)
	holds(t, len(leaves(reflect.ValueOf(&base).Elem())) == 17, "fields of a command:", len(leaves(reflect.ValueOf(&base).Elem())))
	for _, l := range [][]api.Command{oddRow(0, 1), oddRow(0, 3), commandsOf(story()), {{}}, {odd(1), {}, odd(2)}} {
		for i := range l {
			for _, other := range changed(l[i]) {
				m := slices.Clone(l)
				m[i] = other
				holds(t, !begins(t, l, m) && !begins(t, m, l), "Begins of ledgers that differ in", text(l[i]), "and", text(other))
				holds(t, !begins(t, l[:i+1], m) && !begins(t, m[:i+1], l), "Begins of a beginning that differs in", text(l[i]), "and", text(other))
				holds(t, begins(t, l[:i], m) && begins(t, m[:i], l), "Begins of what stands ahead of", text(l[i]))
			}
		}
	}
}

// P12.1: Begins of equal ledgers, of each beginning and of ledgers that go on; a ledger's end, or its middle, isn't its beginning.
func TestBegins(t *testing.T) {
	for _, l := range [][]api.Command{commandsOf(story()), oddRow(0, 5), floorRow(100), floorRow(maxLedger + 1)} {
		holds(t, Begins(l, l) && Begins(l, slices.Clone(l)), "Begins of a ledger of", len(l), "and itself")
		for _, n := range []int{0, 1, 2, len(l) / 2, len(l) - 1} {
			m := slices.Clone(l[:n])
			holds(t, Begins(m, l) && !Begins(l, m), "Begins of", n, "of", len(l))
			if n > 0 {
				holds(t, !Begins(l[n:], l) && !Begins(l[1:n+1], l), "Begins of an end and of a middle of", len(l))
			}
		}
	}
	a, b := odd(1), odd(2)
	holds(t, !Begins([]api.Command{a, b}, []api.Command{b, a}) && !Begins([]api.Command{a}, []api.Command{b, a}), "Begins of another order")
	holds(t, !Begins([]api.Command{a, a}, []api.Command{a}) && Begins([]api.Command{a}, []api.Command{a, a}), "Begins of a command that stands twice")
}

// P12.1, rule 4: nil and empty ledgers mean the same, and so do nil and empty Parts.
func TestBeginsEmpty(t *testing.T) {
	none, empty := api.Command{Kind: 1}, api.Command{Kind: 1, Parts: []int{}}
	holds(t, Begins([]api.Command{none}, []api.Command{empty}) && Begins([]api.Command{empty}, []api.Command{none}), "Begins with empty Parts")
	for _, a := range [][]api.Command{nil, {}} {
		for _, b := range [][]api.Command{nil, {}} {
			holds(t, Begins(a, b), "Begins of two empty ledgers")
		}
		holds(t, Begins(a, []api.Command{{}}) && !Begins([]api.Command{{}}, a), "Begins of the empty ledger and a zero command")
	}
}

// P12.1: Newest with none, one and several commands of the Node and Boot, others beside them, Seqs in any order, 0 and below -1.
func TestNewest(t *testing.T) {
	ids := func(node, boot int, seqs ...int) []api.Command {
		var out []api.Command
		for _, seq := range seqs {
			out = append(out, floors(idOf(node, boot, seq)))
		}
		return out
	}
	for _, one := range []struct {
		seqs []int
		want int
	}{
		{nil, -1}, {[]int{0}, 0}, {[]int{1}, 1}, {[]int{7}, 7}, {[]int{-1}, -1}, {[]int{-2}, -1}, {[]int{math.MinInt}, -1}, {[]int{math.MaxInt}, math.MaxInt}, {[]int{maxTime}, maxTime},
		{[]int{1, 2, 3}, 3}, {[]int{3, 2, 1}, 3}, {[]int{1, 9, 2}, 9}, {[]int{2, 2, 2}, 2}, {[]int{-5, -3, -9}, -1}, {[]int{-5, 0, -9}, 0}, {[]int{-5, 4, -9}, 4}, {[]int{0, -1}, 0}, {[]int{-1, 0}, 0},
	} {
		l := ids(2, 3, one.seqs...)
		holds(t, Newest(l, 2, 3) == one.want, "Newest of", one.seqs, ":", Newest(l, 2, 3))
		for _, other := range [][]api.Command{ids(3, 2, 50), ids(2, 2, 60), ids(2, 4, 70), ids(1, 3, 80), ids(3, 3, 90), ids(-2, 3, 95), ids(2, -3, 96)} {
			for _, m := range [][]api.Command{slices.Concat(other, l), slices.Concat(l, other), slices.Concat(other, l, other)} {
				holds(t, Newest(m, 2, 3) == one.want, "Newest of", one.seqs, "beside", other[0].Id, ":", Newest(m, 2, 3))
				holds(t, Newest(m, other[0].Id.Node, other[0].Id.Boot) == other[0].Id.Seq, "Newest of", other[0].Id)
			}
		}
	}
	negative := ids(-1, -2, -3, 5, 4)
	holds(t, Newest(negative, -1, -2) == 5 && Newest(negative, -2, -1) == -1 && Newest(negative, 0, 0) == -1, "Newest of a Node and a Boot below 0")
}

// P12.1: Newest asks a command's Id alone, whatever else it holds, and goes over ledgers of any length.
func TestNewestOthers(t *testing.T) {
	l := []api.Command{{Id: idOf(1, 1, 4), Upload: idOf(1, 1, 9), Piece: api.Piece{Blob: idOf(1, 1, 8)}, Part: 77, Time: 99, Days: 88}, {Id: idOf(0, 0, 6), Upload: idOf(1, 1, 7)}}
	holds(t, Newest(l, 1, 1) == 4, "Newest:", Newest(l, 1, 1))
	for _, empty := range [][]api.Command{nil, {}} {
		holds(t, Newest(empty, 0, 0) == -1 && Newest(empty, math.MinInt, math.MaxInt) == -1, "Newest of the empty ledger")
	}
	holds(t, Newest(floorRow(maxLedger+3), 3, 4) == maxLedger+3 && Newest([]api.Command{{}}, 0, 0) == 0, "Newest of many, and of a zero command")
}
