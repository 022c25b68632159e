package sig

import (
	"bollard/api"
	"slices"
	"strconv"
	"testing"
)

// P18.1: each of the two fields is there just once, wherever it stands among others, and whichever is ahead.
func TestCounts(t *testing.T) {
	keys := one("k", "s")
	date, claim := fields("x-date", "12")[0], fields("authorization", "BOLLARD1 k:"+right)[0]
	other := fields("host", "x")[0]
	rows := [][]api.Field{nil}
	// Every row of up to five of the three fields.
	for range 6 {
		var longer [][]api.Field
		for _, row := range rows {
			dates, claims := 0, 0
			for _, f := range row {
				switch f {
				case date:
					dates++
				case claim:
					claims++
				}
			}
			r := asking("GET", "/aaa", "")
			r.Fields = row
			judged(t, r, keys, 12, dates == 1 && claims == 1, "k")
			for _, f := range []api.Field{date, claim, other} {
				longer = append(longer, append(slices.Clone(row), f))
			}
		}
		rows = longer
	}
}

// P18.1: a second field isn't good whatever it says, and not the first one either.
func TestSecond(t *testing.T) {
	keys := one("k", "s")
	claim := "BOLLARD1 k:" + right
	for _, v := range []string{"12", "13", "", " ", "x", "-1", "1099511627777"} {
		checked(t, asking("GET", "/aaa", "", "x-date", "12", "authorization", claim, "x-date", v), keys, 12, "", api.ErrRequest)
		checked(t, asking("GET", "/aaa", "", "x-date", v, "authorization", claim, "x-date", "12"), keys, 12, "", api.ErrRequest)
		checked(t, asking("GET", "/aaa", "", "x-date", v, "x-date", "12", "host", "x", "authorization", claim), keys, 12, "", api.ErrRequest)
	}
	for _, v := range []string{claim, "", "x", "BOLLARD1 k:" + wrong, "BOLLARD1 other:" + right, "Basic k"} {
		checked(t, asking("GET", "/aaa", "", "x-date", "12", "authorization", claim, "authorization", v), keys, 12, "", api.ErrRequest)
		checked(t, asking("GET", "/aaa", "", "authorization", v, "x-date", "12", "authorization", claim), keys, 12, "", api.ErrRequest)
		checked(t, asking("GET", "/aaa", "", "authorization", v, "authorization", claim, "host", "x", "x-date", "12"), keys, 12, "", api.ErrRequest)
	}
	var many []string
	for i := range 300 {
		many = append(many, "x-date", strconv.Itoa(i), "authorization", claim)
	}
	checked(t, asking("GET", "/aaa", "", many...), keys, 12, "", api.ErrRequest)
}

// P18.1: names are in small letters: others are other fields, and neither sign nor stand in the way.
func TestGreatLetters(t *testing.T) {
	keys := one("k", "s")
	claim := "BOLLARD1 k:" + right
	for _, name := range []string{"X-Date", "X-DATE", "x-Date", "X-date", "x-datE", "x-date ", " x-date", "x-dat", "x-dates", "x_date", "date", "xdate", "x-date\x00", ""} {
		checked(t, asking("GET", "/aaa", "", name, "12", "authorization", claim), keys, 12, "", api.ErrRequest)
		checked(t, asking("GET", "/aaa", "", name, "99", "x-date", "12", "authorization", claim), keys, 12, "k", nil)
		checked(t, asking("GET", "/aaa", "", "authorization", claim, "x-date", "12", name, "12"), keys, 12, "k", nil)
	}
	for _, name := range []string{"Authorization", "AUTHORIZATION", "authorizatioN", "aUTHORIZATION", "authorization ", " authorization", "authorizatio", "authorizations", "auth", "authorisation", "authorization:", ""} {
		checked(t, asking("GET", "/aaa", "", "x-date", "12", name, claim), keys, 12, "", api.ErrRequest)
		checked(t, asking("GET", "/aaa", "", name, "BOLLARD1 other:"+right, "x-date", "12", "authorization", claim), keys, 12, "k", nil)
		checked(t, asking("GET", "/aaa", "", "authorization", claim, name, claim, "x-date", "12"), keys, 12, "k", nil)
	}
}

// P18.1: what the two fields say isn't taken out of fields with other names, nor one for the other.
func TestTurnedAbout(t *testing.T) {
	keys := one("k", "s")
	claim := "BOLLARD1 k:" + right
	checked(t, asking("GET", "/aaa", "", "x-date", claim, "authorization", "12"), keys, 12, "", api.ErrRequest)
	checked(t, asking("GET", "/aaa", "", "12", "x-date", claim, "authorization"), keys, 12, "", api.ErrRequest)
	checked(t, asking("GET", "/aaa", "", "x-date", "12", "authorization", "12"), keys, 12, "", api.ErrRequest)
	checked(t, asking("GET", "/aaa", "", "x-date", claim, "authorization", claim), keys, 12, "", api.ErrRequest)
	checked(t, asking("GET", "/aaa", "", "host", "x-date", "authorization", claim, "x-date", "12"), keys, 12, "k", nil)
}

// P18.1: other fields, of any number, don't matter.
func TestOthers(t *testing.T) {
	keys := one("k", "s")
	claim := "BOLLARD1 k:" + right
	for _, n := range []int{0, 1, 2, 30, 31, 32, 33, 500} {
		var ahead, between, behind []string
		for i := range n {
			ahead = append(ahead, "a", strconv.Itoa(i))
			between = append(between, "b"+strconv.Itoa(i), "")
			behind = append(behind, "", "c")
		}
		first := slices.Concat(ahead, []string{"x-date", "12"}, between, []string{"authorization", claim}, behind)
		second := slices.Concat(behind, []string{"authorization", claim}, ahead, []string{"x-date", "12"}, between)
		checked(t, asking("GET", "/aaa", "", first...), keys, 12, "k", nil)
		checked(t, asking("GET", "/aaa", "", second...), keys, 12, "k", nil)
		checked(t, asking("GET", "/aaa", "", append(first, "x-date", "12")...), keys, 12, "", api.ErrRequest)
		checked(t, asking("GET", "/aaa", "", append(second, "authorization", claim)...), keys, 12, "", api.ErrRequest)
	}
}
