package sig

import (
	"bollard/api"
	"math"
	"math/rand/v2"
	"slices"
	"testing"
)

// P18.2: what Sign signed Check takes, up to Skew ticks from its date, and not further, whatever is signed, with whichever key.
func TestSignedDrawn(t *testing.T) {
	r := source()
	for range 3000 {
		k := api.Key{Name: drawnName(r), Secret: drawnSecret(r)}
		date := drawnDate(r)
		out := signed(t, drawnGood(r), k, date)
		keys := append([]api.Key{k}, drawnKeys(r)...)
		for _, d := range []int{0, 1, skew, r.IntN(skew + 1)} {
			checked(t, out, keys, date+d, k.Name, nil)
			checked(t, out, keys, date-d, k.Name, nil)
		}
		for _, d := range []int{skew + 1, skew + 1 + r.IntN(1<<40)} {
			checked(t, out, keys, date+d, "", api.ErrSkew)
			checked(t, out, keys, date-d, "", api.ErrSkew)
		}
		s, err := plainText(out, date)
		texted(t, out, date, s, err)
	}
}

// P18.2, P18.3: what was signed with one key of several is taken if that key is the first of its name, or one with the same secret is.
func TestSignedKeys(t *testing.T) {
	r := source()
	var taken, denied int
	for range 5000 {
		keys := append(drawnKeys(r), api.Key{Name: drawnName(r), Secret: drawnSecret(r)})
		k := keys[r.IntN(len(keys))]
		first := keys[slices.IndexFunc(keys, func(other api.Key) bool { return other.Name == k.Name })]
		out := signed(t, drawnGood(r), k, 12)
		if plainSignature(first.Secret, "12", "") == plainSignature(k.Secret, "12", "") {
			taken++
			checked(t, out, keys, 12, k.Name, nil)
		} else {
			denied++
			checked(t, out, keys, 12, "", api.ErrDenied)
		}
	}
	holds(t, taken > 1000 && denied > 300, "taken and denied:", taken, denied)
}

// changed is a signed request of which something is another thing, or stands elsewhere.
func changed(r *rand.Rand, out api.Request) api.Request {
	out.Fields = slices.Clone(out.Fields)
	i := r.IntN(len(out.Fields))
	switch r.IntN(9) {
	case 0:
		out.Method = drawnText(r, allBytes(), r.IntN(4))
	case 1:
		out.Target = drawnTarget(r)
	case 2:
		out.Body = drawnBody(r)
	case 3:
		out.Fields = append(out.Fields, drawnFields(r)...)
	case 4:
		out.Fields = append(drawnFields(r), out.Fields...)
	case 5:
		out.Fields = slices.Delete(out.Fields, i, i+1)
	case 6:
		slices.Reverse(out.Fields)
	default:
		out.Fields[i].Value = spoilt(r, out.Fields[i].Value)
	}
	return out
}

// spoilt is a text with a few of its bytes changed, left out or put in.
func spoilt(r *rand.Rand, s string) string {
	i := r.IntN(len(s) + 1)
	j := i + min(r.IntN(3), len(s)-i)
	const stray = "01289abfAFkK-: \nB+"
	switch r.IntN(3) {
	case 0:
		return s[:i] + drawnText(r, stray, 1) + s[i:]
	case 1:
		return s[:i] + s[j:]
	}
	return s[:i] + drawnText(r, stray, j-i) + s[j:]
}

// P18.1, P18.3: signed requests that are changed come to what the other implementation says.
func TestChangedDrawn(t *testing.T) {
	r := source()
	seen := map[error]int{}
	for range 10000 {
		k := api.Key{Name: drawnName(r), Secret: drawnSecret(r)}
		date := drawnDate(r)
		out, err := Sign(drawnGood(r), k, date)
		holds(t, err == nil, "Sign of", text(out), err)
		for range r.IntN(3) {
			if len(out.Fields) > 0 {
				out = changed(r, out)
			}
		}
		keys := slices.Insert(drawnKeys(r), 0, k)
		if r.IntN(8) == 0 {
			keys = keys[1:]
		}
		now := date + pick(r, 0, 1, -1, skew, -skew, skew+1, -skew-1, math.MaxInt-date, math.MinInt)
		seen[asked(t, out, keys, date, now)]++
	}
	for _, err := range []error{nil, api.ErrUri, api.ErrRequest, api.ErrDenied, api.ErrSkew} {
		holds(t, seen[err] > 50, "few answers of", err, seen)
	}
}

// P18.1: requests that nobody signed come to what the other implementation says.
func TestDrawn(t *testing.T) {
	r := source()
	for range 10000 {
		date := pick(r, drawnDate(r), -1, maxTime+1, math.MinInt, math.MaxInt)
		keys := append(drawnKeys(r), api.Key{Name: pick(r, "", " ", "k:", "k", drawnText(r, allBytes(), 2)), Secret: drawnSecret(r)})
		_ = asked(t, drawn(r), keys, date, r.IntN(300))
	}
}
