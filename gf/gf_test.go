package gf

import (
	"math"
	"math/big"
	"testing"
)

// plainMul is the product by the words of the document: multiply as polynomials, then divide by 285.
func plainMul(a, b byte) byte {
	product := 0
	for i := range 8 {
		if b>>i&1 == 1 {
			product ^= int(a) << i
		}
	}
	for i := 14; i >= 8; i-- {
		if product>>i&1 == 1 {
			product ^= 285 << (i - 8)
		}
	}
	return byte(product)
}

// plainInv searches for the inverse; 0 has none.
func plainInv(a byte) (byte, bool) {
	for b := range 256 {
		if plainMul(a, byte(b)) == 1 {
			return byte(b), true
		}
	}
	return 0, false
}

// plainPow multiplies n times.
func plainPow(a byte, n int) byte {
	product := byte(1)
	for range n {
		product = plainMul(product, a)
	}
	return product
}

// bigPow is the power of an element but 0 by a whole number of any size.
func bigPow(a byte, n *big.Int) byte {
	rest := new(big.Int).Mod(n, big.NewInt(255))
	return plainPow(a, int(rest.Int64()))
}

// farNumbers are numbers at the ends of int, and beside the places where powers come again.
func farNumbers() []int {
	return []int{
		math.MinInt, math.MinInt + 1, math.MinInt + 254, math.MinInt + 255, math.MinInt32, -65536, -511, -510, -256, -255, -254, -2, -1,
		0, 1, 2, 254, 255, 256, 510, 511, 65536, math.MaxInt32, math.MaxInt - 255, math.MaxInt - 1, math.MaxInt,
	}
}

// P1.1: the sum and the product, at all pairs.
func TestAddAndMulAtAllPairs(t *testing.T) {
	for a := range 256 {
		for b := range 256 {
			x, y := byte(a), byte(b)
			if got := Add(x, y); got != x^y {
				t.Fatalf("Add(%d, %d) = %d, want %d", x, y, got, x^y)
			}
			if got, want := Mul(x, y), plainMul(x, y); got != want {
				t.Fatalf("Mul(%d, %d) = %d, want %d", x, y, got, want)
			}
		}
	}
}

// P1.1: the inverse and the quotient, at all arguments; beside false stands 0.
func TestInvAndDivAtAllPairs(t *testing.T) {
	for b := range 256 {
		y := byte(b)
		inverse, there := plainInv(y)
		if there != (b != 0) {
			t.Fatalf("the search found an inverse of %d: %v", y, there)
		}
		if got, ok := Inv(y); got != inverse || ok != there {
			t.Fatalf("Inv(%d) = %d, %v, want %d, %v", y, got, ok, inverse, there)
		}
		for a := range 256 {
			x := byte(a)
			want := plainMul(x, inverse)
			if got, ok := Div(x, y); got != want || ok != there {
				t.Fatalf("Div(%d, %d) = %d, %v, want %d, %v", x, y, got, ok, want, there)
			}
		}
	}
}

// P1.1: powers of every element, by numbers around 0 and past the place where they come again.
func TestPowNearZero(t *testing.T) {
	var inverses [256]byte
	for a := range 256 {
		inverses[a], _ = plainInv(byte(a))
	}
	for a := range 256 {
		x, power := byte(a), byte(1)
		for n := range 521 {
			if got := Pow(x, n); got != power {
				t.Fatalf("Pow(%d, %d) = %d, want %d", x, n, got, power)
			}
			if got := Pow(x, -n); n > 0 && got != inverses[power] {
				t.Fatalf("Pow(%d, %d) = %d, want %d", x, -n, got, inverses[power])
			}
			power = plainMul(power, x)
		}
	}
}

// P1.1: powers by numbers far from 0, the least of all among them.
func TestPowFarFromZero(t *testing.T) {
	for _, n := range farNumbers() {
		for a := 1; a < 256; a++ {
			x := byte(a)
			if got, want := Pow(x, n), bigPow(x, big.NewInt(int64(n))); got != want {
				t.Fatalf("Pow(%d, %d) = %d, want %d", x, n, got, want)
			}
		}
	}
}

// P1.1: 0's power is 1 by 0, and 0 by every other number.
func TestPowOfZero(t *testing.T) {
	for _, n := range farNumbers() {
		want := byte(0)
		if n == 0 {
			want = 1
		}
		if got := Pow(0, n); got != want {
			t.Errorf("Pow(0, %d) = %d, want %d", n, got, want)
		}
	}
}

// P1.1: Log answers the least number, and 0 has none.
func TestLogAtAllElements(t *testing.T) {
	if n, ok := Log(0); n != 0 || ok {
		t.Errorf("Log(0) = %d, %v, want 0, false", n, ok)
	}
	for a := 1; a < 256; a++ {
		least := 0
		for plainPow(2, least) != byte(a) {
			least++
		}
		if n, ok := Log(byte(a)); n != least || !ok {
			t.Errorf("Log(%d) = %d, %v, want %d, true", a, n, ok, least)
		}
	}
}

// P1.1: the chapter's examples of elements.
func TestExamples(t *testing.T) {
	if got := Mul(2, 128); got != 29 {
		t.Error("Mul(2, 128)", got)
	}
	if got := Mul(3, 7); got != 9 {
		t.Error("Mul(3, 7)", got)
	}
	if got, ok := Inv(2); got != 142 || !ok {
		t.Error("Inv(2)", got, ok)
	}
	if got, ok := Inv(0); got != 0 || ok {
		t.Error("Inv(0)", got, ok)
	}
	if got, ok := Div(9, 7); got != 3 || !ok {
		t.Error("Div(9, 7)", got, ok)
	}
	for _, c := range []struct {
		a    byte
		n    int
		want byte
	}{{2, 8, 29}, {2, -1, 142}, {0, 0, 1}, {0, -3, 0}} {
		if got := Pow(c.a, c.n); got != c.want {
			t.Errorf("Pow(%d, %d) = %d, want %d", c.a, c.n, got, c.want)
		}
	}
	for _, c := range []struct {
		a    byte
		want int
	}{{29, 8}, {1, 0}} {
		if got, ok := Log(c.a); got != c.want || !ok {
			t.Errorf("Log(%d) = %d, %v, want %d, true", c.a, got, ok, c.want)
		}
	}
}

// P1.2: the laws of one and of two elements.
func TestLawsOfPairs(t *testing.T) {
	for a := range 256 {
		x := byte(a)
		if Add(x, 0) != x || Add(x, x) != 0 || Mul(x, 0) != 0 || Mul(x, 1) != x {
			t.Fatalf("0 and 1 with %d", x)
		}
		inverse, ok := Inv(x)
		if ok != (x != 0) || ok && Mul(x, inverse) != 1 {
			t.Fatalf("the inverse of %d: %d, %v", x, inverse, ok)
		}
		for b := range 256 {
			y := byte(b)
			if Add(x, y) != Add(y, x) || Mul(x, y) != Mul(y, x) {
				t.Fatalf("%d and %d don't commute", x, y)
			}
			if x != 0 && y != 0 && Mul(x, y) == 0 {
				t.Fatalf("%d times %d is 0", x, y)
			}
			if quotient, ok := Div(x, y); ok && Mul(quotient, y) != x {
				t.Fatalf("%d by %d, times %d, isn't %d", x, y, y, x)
			}
		}
	}
}

// P1.2: the laws of three elements, at all triples.
func TestLawsOfTriples(t *testing.T) {
	var products, sums [256][256]byte
	for a := range 256 {
		for b := range 256 {
			products[a][b] = Mul(byte(a), byte(b))
			sums[a][b] = Add(byte(a), byte(b))
		}
	}
	for a := range 256 {
		for b := range 256 {
			for c := range 256 {
				if sums[sums[a][b]][c] != sums[a][sums[b][c]] {
					t.Fatalf("sums of %d, %d, %d aren't associative", a, b, c)
				}
				if products[products[a][b]][c] != products[a][products[b][c]] {
					t.Fatalf("products of %d, %d, %d aren't associative", a, b, c)
				}
				if products[a][sums[b][c]] != sums[products[a][b]][products[a][c]] {
					t.Fatalf("products of %d, %d, %d aren't distributive", a, b, c)
				}
			}
		}
	}
}

// P1.3: the powers of 2 by 0 to 254 are the elements but 0, each just once, and Log leads back.
func TestPowersOfTwo(t *testing.T) {
	var seen [256]int
	for n := range 255 {
		power := Pow(2, n)
		seen[power]++
		if back, ok := Log(power); back != n || !ok {
			t.Errorf("Log(Pow(2, %d)) = %d, %v", n, back, ok)
		}
	}
	for a, times := range seen {
		if a == 0 && times != 0 || a != 0 && times != 1 {
			t.Errorf("%d is a power of 2 by %d numbers", a, times)
		}
	}
}

// P1.3: Pow adds in its number; the sum of two ints may be none.
func TestPowAdds(t *testing.T) {
	numbers := farNumbers()
	for a := 1; a < 256; a++ {
		x := byte(a)
		for _, m := range numbers {
			for _, n := range numbers {
				sum := new(big.Int).Add(big.NewInt(int64(m)), big.NewInt(int64(n)))
				got := Mul(Pow(x, m), Pow(x, n))
				if want := bigPow(x, sum); got != want {
					t.Fatalf("Pow(%d, %d) times Pow(%d, %d) = %d, want %d", x, m, x, n, got, want)
				}
				if sum.IsInt64() && Pow(x, int(sum.Int64())) != got {
					t.Fatalf("Pow(%d, %v) isn't Pow(%d, %d) times Pow(%d, %d)", x, sum, x, m, x, n)
				}
			}
		}
	}
}
