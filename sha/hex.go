package sha

// digits are those of the numbers 0 to 15.
const digits = "0123456789abcdef"

// Hex is bytes as digits.
func Hex(b []byte) string {
	out := make([]byte, 0, 2*len(b))
	for _, c := range b {
		out = append(out, digits[c>>4], digits[c&15])
	}
	return string(out)
}

// Unhex is the bytes of digits.
func Unhex(s string) ([]byte, bool) {
	if len(s)%2 != 0 {
		return nil, false
	}
	out := make([]byte, len(s)/2)
	for i := range out {
		high, highOk := digitOf(s[2*i])
		low, lowOk := digitOf(s[2*i+1])
		if !highOk || !lowOk {
			return nil, false
		}
		out[i] = high<<4 | low
	}
	return out, true
}

// digitOf is the number of a digit. Capitals are none: Hex writes no capitals, so it would not write them back.
func digitOf(c byte) (byte, bool) {
	switch {
	case '0' <= c && c <= '9':
		return c - '0', true
	case 'a' <= c && c <= 'f':
		return c - 'a' + 10, true
	}
	return 0, false
}
