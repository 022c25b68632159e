package uri

// greatDigits are the digits as Encode writes them.
const greatDigits = "0123456789ABCDEF"

// Encode writes plain bytes as they are, "/" too if slash is true, and each other byte as "%" and two digits.
func Encode(s string, slash bool) string {
	out := make([]byte, 0, len(s))
	for i := range len(s) {
		c := s[i]
		if isPlain(c) || slash && c == '/' {
			out = append(out, c)
		} else {
			out = append(out, '%', greatDigits[c/16], greatDigits[c%16])
		}
	}
	return string(out)
}

// decode is what a text with "%"s stands for; false, if a "%" has no two digits behind it, or a byte isn't 32 to 126.
func decode(s string) (string, bool) {
	out := make([]byte, 0, len(s))
	for i := 0; i < len(s); i++ {
		c, ok := s[i], true
		if c == '%' {
			c, ok = written(s[i+1:])
			i += 2
		}
		if !ok || c < ' ' || c > '~' {
			return "", false
		}
		out = append(out, c)
	}
	return string(out), true
}

// written is the byte of the two digits with which a text begins.
func written(s string) (byte, bool) {
	if len(s) < 2 {
		return 0, false
	}
	high, good := digit(s[0])
	low, ok := digit(s[1])
	if !good || !ok {
		return 0, false
	}
	return 16*high + low, true
}

// digit is the number of a digit of base 16, small or great.
func digit(c byte) (byte, bool) {
	switch {
	case isDigit(c):
		return c - '0', true
	case c >= 'a' && c <= 'f':
		return c - 'a' + 10, true
	case c >= 'A' && c <= 'F':
		return c - 'A' + 10, true
	}
	return 0, false
}

func isPlain(c byte) bool {
	return isLetter(c) || isDigit(c) || c == '-' || c == '_' || c == '.' || c == '~'
}

func isLetter(c byte) bool { return c >= 'a' && c <= 'z' || c >= 'A' && c <= 'Z' }

func isDigit(c byte) bool { return c >= '0' && c <= '9' }
