package literal

import (
	"fmt"
	"math"
	"testing"

	"linotype/api"
)

// numbers tells the numbers around each power of two, and some that are strewn between them.
func numbers() []int {
	l := []int{math.MinInt, math.MaxInt}
	for i := range 64 {
		for d := -2; d <= 2; d++ {
			l = append(l, 1<<i+d, -1<<i+d)
		}
	}
	n := 1
	for range 500 {
		n = n*6364136223846793005 + 1442695040888963407
		l = append(l, n, n>>17, n>>33, n>>49)
	}
	return l
}

// P2.2: Hex and Dec, with their examples and edges.
func TestHexAndDec(t *testing.T) {
	for _, x := range []struct {
		n        int
		hex, dec string
	}{
		{255, "0xff", "255"},
		{-1, "-0x1", "-1"},
		{0, "0x0", "0"},
		{-12, "-0xc", "-12"},
		{10, "0xa", "10"},
		{16, "0x10", "16"},
		{-255, "-0xff", "-255"},
		{0x0123456789abcdef, "0x123456789abcdef", "81985529216486895"},
		{math.MaxInt, "0x7fffffffffffffff", "9223372036854775807"},
		{math.MinInt + 1, "-0x7fffffffffffffff", "-9223372036854775807"},
		{math.MinInt, "-0x8000000000000000", "-9223372036854775808"},
	} {
		if got := Hex(x.n); got != x.hex {
			t.Errorf("Hex(%d) = %s", x.n, got)
		}
		if got := Dec(x.n); got != x.dec {
			t.Errorf("Dec(%d) = %s", x.n, got)
		}
	}
}

// P2.2: the same as another writer of numbers.
func TestHexAndDecAsOthers(t *testing.T) {
	for _, n := range numbers() {
		if got, want := Hex(n), fmt.Sprintf("%#x", n); got != want {
			t.Errorf("Hex(%d) = %s", n, got)
		}
		if got, want := Dec(n), fmt.Sprint(n); got != want {
			t.Errorf("Dec(%d) = %s", n, got)
		}
	}
}

// P2.3: what Hex and Dec return is read as the number; behind the sign, where it is below 0, as its opposite.
func TestWrittenIsRead(t *testing.T) {
	for _, n := range numbers() {
		at, want := 0, n
		if n < 0 {
			at, want = 1, -n
		}
		for _, s := range []string{Hex(n), Dec(n)} {
			got, end, f := Scan(s, at)
			if got != want || end != len(s) || f != (api.Fault{}) {
				t.Errorf("Scan(%s, %d) = %d, %d, %v", s, at, got, end, f)
			}
		}
	}
}

// P1: any bytes, read from any place: Scan ends, and answers either a number or a fault within the text.
func TestScanAnything(t *testing.T) {
	const bytes = "'0x1_hHbo9aZ ~\x00\xff\n"
	seed := 1
	for range 20000 {
		s := ""
		for range 12 {
			seed = seed*6364136223846793005 + 1442695040888963407
			i := uint64(seed) >> 33 % uint64(len(bytes))
			s += bytes[i : i+1]
		}
		for at := -1; at <= len(s)+1; at++ {
			n, end, f := Scan(s, at)
			fault := f.Err != api.OK && n == 0 && end == 0 && f.At >= max(at, 0) && f.At <= max(at, len(s))
			number := f == (api.Fault{}) && end > at && end <= len(s)
			if !fault && !number {
				t.Errorf("Scan(%q, %d) = %d, %d, %v", s, at, n, end, f)
			}
		}
	}
}
