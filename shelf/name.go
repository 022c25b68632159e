package shelf

import (
	"bollard/api"
	"cmp"
	"strconv"
	"strings"
)

const (
	fileMark  = "b"
	stageMark = "t"
	between   = "-"
)

// Compare compares ids.
func Compare(a, b api.Id) int {
	return cmp.Or(cmp.Compare(a.Node, b.Node), cmp.Compare(a.Boot, b.Boot), cmp.Compare(a.Seq, b.Seq))
}

func isNode(n int) bool { return n >= 0 && n < api.MaxWidth }

func isTime(n int) bool { return n >= 0 && n <= api.MaxTime }

func isGood(blob api.Id) bool {
	return isNode(blob.Node) && isTime(blob.Boot) && isTime(blob.Seq)
}

func fileOf(blob api.Id) string { return nameOf(fileMark, blob) }

func stageOf(blob api.Id) string { return nameOf(stageMark, blob) }

func nameOf(mark string, blob api.Id) string {
	pieces := []string{mark, strconv.Itoa(blob.Node), strconv.Itoa(blob.Boot), strconv.Itoa(blob.Seq)}
	return strings.Join(pieces, between)
}

// blobOf is the blob whose file has that name; false, if no good id's has.
func blobOf(name string) (api.Id, bool) {
	pieces := strings.Split(name, between)
	if len(pieces) != 4 {
		return api.Id{}, false
	}
	var numbers [3]int
	for i := range numbers {
		n, err := strconv.Atoi(pieces[i+1])
		if err != nil {
			return api.Id{}, false
		}
		numbers[i] = n
	}
	blob := api.Id{Node: numbers[0], Boot: numbers[1], Seq: numbers[2]}
	// Atoi reads more than one text as the same number, such as with a 0 or a + ahead; only one of them is the file's name.
	if !isGood(blob) || fileOf(blob) != name {
		return api.Id{}, false
	}
	return blob, true
}
