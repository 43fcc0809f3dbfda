package field

import (
	"math"
	"math/big"
	"testing"
)

// numbers tells the numbers around each power of two, and some that are strewn between them.
func numbers() []int {
	l := []int{math.MinInt, math.MaxInt}
	for i := range 64 {
		for d := -2; d <= 2; d++ {
			l = append(l, 1<<i+d, -1<<i+d)
		}
	}
	n := 1
	for range 500 {
		n = n*6364136223846793005 + 1442695040888963407
		l = append(l, n, n>>17, n>>33, n>>49)
	}
	return l
}

func wrongBits() []int {
	return []int{math.MinInt, -64, -1, 0, 65, 128, math.MaxInt}
}

// power tells 2 to the power of n.
func power(n int) *big.Int {
	return new(big.Int).Lsh(big.NewInt(1), uint(n))
}

// between tells whether a number is from one to another, or below that other one.
func between(n int, from, below *big.Int) bool {
	b := big.NewInt(int64(n))
	return b.Cmp(from) >= 0 && b.Cmp(below) < 0
}

// P1.1: Fits and Wide, at each edge of each number of bits.
func TestFitsAndWide(t *testing.T) {
	for bits := 1; bits <= 64; bits++ {
		low := new(big.Int).Neg(power(bits - 1))
		for _, n := range numbers() {
			if got, want := Fits(n, bits), between(n, low, power(bits-1)); got != want {
				t.Errorf("Fits(%d, %d) = %v", n, bits, got)
			}
			if got, want := Wide(n, bits), between(n, low, power(bits)); got != want {
				t.Errorf("Wide(%d, %d) = %v", n, bits, got)
			}
		}
	}
}

// P1.1: Low is the rest of the division by 2 to the power of bits, Sign the same from the negative half on.
func TestSignAndLow(t *testing.T) {
	for bits := 1; bits <= 64; bits++ {
		for _, n := range numbers() {
			low := new(big.Int).Mod(big.NewInt(int64(n)), power(bits))
			sign := new(big.Int).Set(low)
			if low.Cmp(power(bits-1)) >= 0 {
				sign.Sub(low, power(bits))
			}
			if got := Sign(n, bits); sign.Cmp(big.NewInt(int64(got))) != 0 {
				t.Errorf("Sign(%d, %d) = %d, not %s", n, bits, got, sign)
			}
			if bits == 64 {
				low.SetInt64(int64(n))
			}
			if got := Low(n, bits); low.Cmp(big.NewInt(int64(got))) != 0 {
				t.Errorf("Low(%d, %d) = %d, not %s", n, bits, got, low)
			}
		}
	}
}

// P1.1: numbers of bits that are not valid.
func TestWrongBits(t *testing.T) {
	for _, bits := range wrongBits() {
		for _, n := range []int{0, 1, -1, 5, math.MinInt, math.MaxInt} {
			if Fits(n, bits) || Wide(n, bits) || Sign(n, bits) != 0 || Low(n, bits) != 0 {
				t.Errorf("%d with %d bits", n, bits)
			}
		}
	}
}

// P1.1: the examples of the chapter.
func TestBitsExamples(t *testing.T) {
	if !Fits(127, 8) || Fits(128, 8) || !Wide(255, 8) || Wide(-129, 8) || Fits(0, 65) {
		t.Error("Fits, Wide")
	}
	if Sign(255, 8) != -1 || Low(-1, 8) != 255 || Sign(5, 0) != 0 {
		t.Error("Sign, Low")
	}
}

// P1.4: what fits is wide; Sign of what fits is the number itself; Sign and Low differ by nothing, or by 2 to the power of bits.
func TestBitsTheorems(t *testing.T) {
	for bits := 1; bits <= 64; bits++ {
		for _, n := range numbers() {
			if Fits(n, bits) && (!Wide(n, bits) || Sign(n, bits) != n) {
				t.Errorf("%d fits in %d bits", n, bits)
			}
			apart := new(big.Int).Sub(big.NewInt(int64(Low(n, bits))), big.NewInt(int64(Sign(n, bits))))
			if apart.Sign() != 0 && apart.Cmp(power(bits)) != 0 {
				t.Errorf("Low and Sign of %d with %d bits differ by %s", n, bits, apart)
			}
		}
	}
}
