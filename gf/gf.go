// Package gf is layer 1: the field of 256 elements, and lists of them; see shared/doc/01-gf.md.
package gf

// order is how many elements there are but 0: powers of such an element come again after as many steps.
const order = 255

// fold is x^8 as a byte: 285 without the bit that no byte holds.
const fold = 285 - 256

// Add is the sum.
func Add(a, b byte) byte { return a ^ b }

// Mul is the product.
func Mul(a, b byte) byte {
	var product byte
	for range 8 {
		if b&1 != 0 {
			product ^= a
		}
		a = double(a)
		b >>= 1
	}
	return product
}

// double is the product with x.
func double(a byte) byte {
	if a&0x80 != 0 {
		return a<<1 ^ fold
	}
	return a << 1
}

// Inv is the inverse.
func Inv(a byte) (byte, bool) {
	if a == 0 {
		return 0, false
	}
	return Pow(a, -1), true
}

// Div is the quotient.
func Div(a, b byte) (byte, bool) {
	inverse, ok := Inv(b)
	if !ok {
		return 0, false
	}
	return Mul(a, inverse), true
}

// Pow is a power.
func Pow(a byte, n int) byte {
	if n == 0 {
		return 1
	}
	if a == 0 {
		return 0
	}
	// The remainder stands for n, so that -n is never asked for: the least int has none.
	rest := n % order
	if rest < 0 {
		rest += order
	}
	return raise(a, rest)
}

// raise is the product of n times a, n from 0 to 254.
func raise(a byte, n int) byte {
	product := byte(1)
	for range 8 {
		if n&1 != 0 {
			product = Mul(product, a)
		}
		a = Mul(a, a)
		n >>= 1
	}
	return product
}

// Log is the logarithm by 2.
func Log(a byte) (int, bool) {
	power := byte(1)
	for n := range order {
		if power == a {
			return n, true
		}
		power = double(power)
	}
	return 0, false
}

// Dot is the sum of products.
func Dot(a, b []byte) byte {
	var sum byte
	for i := range min(len(a), len(b)) {
		sum ^= Mul(a[i], b[i])
	}
	return sum
}

// Sum is the sum, place by place.
func Sum(a, b []byte) []byte { return AddScaled(a, 1, b) }

// Scale is the product with one element.
func Scale(c byte, a []byte) []byte {
	out := make([]byte, len(a))
	addTimes(c)(out, a)
	return out
}

// AddScaled is a and c times b.
func AddScaled(a []byte, c byte, b []byte) []byte {
	out := make([]byte, max(len(a), len(b)))
	copy(out, a)
	addTimes(c)(out, b)
	return out
}

// addTimes gives the kernel that adds c times a list onto another one, which must be at least as long.
func addTimes(c byte) func(onto, list []byte) {
	return func(onto, list []byte) {
		for i := range len(list) {
			onto[i] ^= Mul(c, list[i])
		}
	}
}
