package operand

import (
	"math"
	"math/big"
	"testing"

	"linotype/api"
)

// told tells a number in a number of bits by integers of any size, as the document has it.
func told(n, bits int, signed bool) (int, api.Errno) {
	all, half, number := new(big.Int).Lsh(big.NewInt(1), uint(bits)), new(big.Int).Lsh(big.NewInt(1), uint(bits-1)), big.NewInt(int64(n))
	if bits == 64 {
		return n, api.OK
	}
	if number.Cmp(new(big.Int).Neg(half)) < 0 || number.Cmp(all) >= 0 {
		return 0, api.ErrRange
	}
	number.Mod(number, all)
	if signed && number.Cmp(half) >= 0 {
		number.Sub(number, all)
	}
	return int(number.Int64()), api.OK
}

// asked compares what Imm answers with what the document says, and with the theorem: the answer fits, stays as it is, and is congruent to the number.
func asked(t *testing.T, n, bits int, signed bool) {
	t.Helper()
	want, err := told(n, bits, signed)
	got, bad := Imm(n, bits, signed)
	if got != want || bad != err {
		t.Fatalf("Imm(%d, %d, %v) = %d, %v, not %d, %v", n, bits, signed, got, bad, want, err)
	}
	if bad != api.OK {
		return
	}
	if again, err := Imm(got, bits, signed); again != got || err != api.OK {
		t.Fatalf("Imm(%d, %d, %v) = %d, %v", got, bits, signed, again, err)
	}
	if uint64(got-n)<<(64-bits) != 0 {
		t.Fatalf("%d in %d bits is %d", n, bits, got)
	}
}

// P6.2, P6.3: numbers of all lengths, in each number of bits, with a sign and without.
func TestImm(t *testing.T) {
	for _, bits := range []int{8, 16, 32, 64} {
		for _, n := range numbers() {
			asked(t, n, bits, true)
			asked(t, n, bits, false)
		}
	}
}

// P6.2, P6.3: all numbers about those of eight and of sixteen bits.
func TestImmAll(t *testing.T) {
	for n := -70000; n <= 140000; n++ {
		for _, bits := range []int{8, 16} {
			asked(t, n, bits, true)
			asked(t, n, bits, false)
		}
	}
}

// P6.2: the bounds, as numbers.
func TestImmBounds(t *testing.T) {
	for _, w := range []struct{ bits, low, signed, high int }{{8, -128, 127, 255}, {16, -32768, 32767, 65535}, {32, -2147483648, 2147483647, 4294967295}} {
		for _, x := range []struct {
			n, with, without int
			err              api.Errno
		}{
			{w.low - 1, 0, 0, api.ErrRange}, {w.low, w.low, w.signed + 1, api.OK}, {-1, -1, w.high, api.OK}, {0, 0, 0, api.OK}, {w.signed, w.signed, w.signed, api.OK},
			{w.signed + 1, w.low, w.signed + 1, api.OK}, {w.high, -1, w.high, api.OK}, {w.high + 1, 0, 0, api.ErrRange}, {math.MinInt, 0, 0, api.ErrRange}, {math.MaxInt, 0, 0, api.ErrRange},
		} {
			if got, err := Imm(x.n, w.bits, true); got != x.with || err != x.err {
				t.Errorf("Imm(%d, %d, true) = %d, %v", x.n, w.bits, got, err)
			}
			if got, err := Imm(x.n, w.bits, false); got != x.without || err != x.err {
				t.Errorf("Imm(%d, %d, false) = %d, %v", x.n, w.bits, got, err)
			}
		}
	}
}

// P6.2: numbers of bits that there are not go ahead of numbers that do not fit.
func TestImmBits(t *testing.T) {
	l := []int{math.MinInt, math.MaxInt, 1 << 16, 1<<16 + 8, 1<<32 + 8, 1<<32 + 16, 1<<32 + 64, -1 << 32}
	for bits := -70; bits <= 300; bits++ {
		if bits != 8 && bits != 16 && bits != 32 && bits != 64 {
			l = append(l, bits)
		}
	}
	for _, bits := range l {
		for _, n := range []int{0, 1, 5, -1, 127, 256, 1 << 31, math.MinInt, math.MaxInt} {
			for _, signed := range []bool{true, false} {
				if got, err := Imm(n, bits, signed); got != 0 || err != api.ErrArg {
					t.Errorf("Imm(%d, %d, %v) = %d, %v", n, bits, signed, got, err)
				}
			}
		}
	}
}

// The document's examples of Imm.
func TestImmExamples(t *testing.T) {
	for _, x := range []struct {
		n, bits int
		signed  bool
		want    int
		err     api.Errno
	}{{255, 8, true, -1, api.OK}, {-1, 8, false, 255, api.OK}, {256, 8, false, 0, api.ErrRange}, {-129, 8, true, 0, api.ErrRange}, {5, 7, false, 0, api.ErrArg}} {
		if got, err := Imm(x.n, x.bits, x.signed); got != x.want || err != x.err {
			t.Errorf("Imm(%d, %d, %v) = %d, %v", x.n, x.bits, x.signed, got, err)
		}
	}
}
