package disk

import "bollard/api"

const (
	lowestByte  = 33  // of a name
	highestByte = 126 // of a name
)

// file is a file of a drive. Its bytes are strings, which nobody can change, so that a synced file needs them but once.
type file struct {
	bytes   string
	safe    string
	hasSafe bool // no bytes may be safe, which is another thing than that nothing is
}

// synced is the file with its bytes safe.
func (f file) synced() file { return file{bytes: f.bytes, safe: f.bytes, hasSafe: true} }

// bits is how many bits the file's bytes have.
func (f file) bits() int { return 8 * len(f.bytes) }

// turned is the file with that bit turned, the lowest of a byte being its first: harm to a drive outlasts a crash, so it is safe.
func (f file) turned(bit int) file {
	b := []byte(f.bytes)
	b[bit/8] ^= 1 << (bit % 8)
	f.bytes = string(b)
	return f.synced()
}

// isName tells whether a file may have that name.
func isName(name string) bool {
	if len(name) < 1 || len(name) > api.MaxName {
		return false
	}
	for i := range len(name) {
		if name[i] < lowestByte || name[i] > highestByte {
			return false
		}
	}
	return true
}
