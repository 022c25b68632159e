package sig

import (
	"bollard/api"
	"bollard/http"
	"bollard/sha"
	"strconv"
	"strings"
)

const (
	dateField = "x-date"
	signField = "authorization"
	ahead     = version + " "
	behind    = ":"
	digits    = 64
)

// claim is what the two fields of a signed request say: when it was signed, with which key, and how.
type claim struct {
	date            int
	name, signature string
}

// fields are those of a signed request.
func (c claim) fields() []api.Field {
	return []api.Field{
		{Name: dateField, Value: strconv.Itoa(c.date)},
		{Name: signField, Value: ahead + c.name + behind + c.signature},
	}
}

// claimOf reads the two fields of a request, if each is there just once and of its form.
func claimOf(r api.Request) (claim, bool) {
	if http.Count(r, dateField) != 1 || http.Count(r, signField) != 1 {
		return claim{}, false
	}
	first, _ := http.Field(r, dateField)
	second, _ := http.Field(r, signField)
	date, ok := readDate(first)
	if !ok {
		return claim{}, false
	}
	rest, ok := strings.CutPrefix(second, ahead)
	if !ok {
		return claim{}, false
	}
	name, signature, _ := strings.Cut(rest, behind)
	if !goodName(name) || !goodSignature(signature) {
		return claim{}, false
	}
	return claim{date: date, name: name, signature: signature}, true
}

// readDate is the date that a text is, and whether it is one.
func readDate(text string) (int, bool) {
	date, err := strconv.Atoi(text)
	// Written again a date is the same text: signs and noughts ahead aren't a date's.
	if err != nil || !goodDate(date) || strconv.Itoa(date) != text {
		return 0, false
	}
	return date, true
}

func goodDate(date int) bool { return date >= 0 && date <= api.MaxTime }

func goodSignature(text string) bool {
	_, ok := sha.Unhex(text)
	return ok && len(text) == digits
}

// goodName tells whether a key may have this name.
func goodName(name string) bool {
	for i := range len(name) {
		if !goodByte(name[i]) {
			return false
		}
	}
	return name != ""
}

func goodByte(c byte) bool {
	return c >= 'a' && c <= 'z' || c >= 'A' && c <= 'Z' || c >= '0' && c <= '9' || c == '-'
}
