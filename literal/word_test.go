package literal

import (
	"math"
	"math/big"
	"strings"
	"testing"

	"linotype/api"
)

// row is a call of Scan, and what it answers.
type row struct {
	s      string
	at     int
	n, end int
	err    api.Errno
	wrong  int
}

// scanned calls Scan for each row.
func scanned(t *testing.T, rows []row) {
	t.Helper()
	for _, x := range rows {
		n, end, f := Scan(x.s, x.at)
		if n != x.n || end != x.end || f != (api.Fault{Err: x.err, At: x.wrong}) {
			t.Errorf("Scan(%q, %d) = %d, %d, %v", x.s, x.at, n, end, f)
		}
	}
}

// P2.1: neither a digit nor ' there, or no place at all.
func TestScanMissing(t *testing.T) {
	scanned(t, []row{
		{"+5", 0, 0, 0, api.ErrMissing, 0},
		{"h", 0, 0, 0, api.ErrMissing, 0},
		{"5", -1, 0, 0, api.ErrMissing, 0},
		{"5", math.MinInt, 0, 0, api.ErrMissing, 0},
		{"'a'", -3, 0, 0, api.ErrMissing, 0},
		{"5", 1, 0, 0, api.ErrMissing, 1},
		{"5", 2, 0, 0, api.ErrMissing, 2},
		{"5", math.MaxInt, 0, 0, api.ErrMissing, math.MaxInt},
		{"", 0, 0, 0, api.ErrMissing, 0},
		{"5 ", 1, 0, 0, api.ErrMissing, 1},
		{"12_3", 2, 0, 0, api.ErrMissing, 2},
		{"0xff", 2, 0, 0, api.ErrMissing, 2},
		{"\u0663", 0, 0, 0, api.ErrMissing, 0},
	})
	for c := range 256 {
		if c >= '0' && c <= '9' || c == '\'' {
			continue
		}
		s := "9" + string([]byte{byte(c)}) + "9"
		scanned(t, []row{{s, 1, 0, 0, api.ErrMissing, 1}})
	}
}

// P2.1: words of each notation, and where they end.
func TestScanWord(t *testing.T) {
	scanned(t, []row{
		{"0x1F", 0, 31, 4, api.OK, 0},
		{"0X1f", 0, 31, 4, api.OK, 0},
		{"1_000", 0, 1000, 5, api.OK, 0},
		{"0ffh", 0, 255, 4, api.OK, 0},
		{"0FFH", 0, 255, 4, api.OK, 0},
		{"0b101", 0, 5, 5, api.OK, 0},
		{"0B101", 0, 5, 5, api.OK, 0},
		{"0o17", 0, 15, 4, api.OK, 0},
		{"0O17", 0, 15, 4, api.OK, 0},
		{"a5", 1, 5, 2, api.OK, 0},
		{"0", 0, 0, 1, api.OK, 0},
		{"007", 0, 7, 3, api.OK, 0},
		{"017", 0, 17, 3, api.OK, 0},
		{"1234567890", 0, 1234567890, 10, api.OK, 0},
		{"0x0123456789abcdef", 0, 0x0123456789abcdef, 18, api.OK, 0},
		{"0xABCDEF", 0, 0xabcdef, 8, api.OK, 0},
		{"0h", 0, 0, 2, api.OK, 0},
		{"9h", 0, 9, 2, api.OK, 0},
		// What ends with h is of base 16, whatever it begins with; but not what begins with 0x.
		{"0b1h", 0, 0xb1, 4, api.OK, 0},
		{"0bh", 0, 0xb, 3, api.OK, 0},
		{"0x1h", 0, 0, 0, api.ErrBytes, 3},
		{"0xh", 0, 0, 0, api.ErrBytes, 2},
		{"0o7h", 0, 0, 0, api.ErrBytes, 1},
		{"10h+1", 0, 16, 3, api.OK, 0},
		{"1+2", 0, 1, 1, api.OK, 0},
		{"1+2", 2, 2, 3, api.OK, 0},
		{"[0x10]", 1, 16, 5, api.OK, 0},
		{"1'a'", 0, 1, 1, api.OK, 0},
		{"12.5", 0, 12, 2, api.OK, 0},
		{"12\u00e9", 0, 12, 2, api.OK, 0},
		{"12345", 2, 345, 5, api.OK, 0},
	})
}

// P2.1: the first digit that is wrong.
func TestScanWrongDigit(t *testing.T) {
	scanned(t, []row{
		{"0x", 0, 0, 0, api.ErrBytes, 1},
		{"0X", 0, 0, 0, api.ErrBytes, 1},
		{"0b", 0, 0, 0, api.ErrBytes, 1},
		{"0o", 0, 0, 0, api.ErrBytes, 1},
		{"0b2", 0, 0, 0, api.ErrBytes, 2},
		{"0b1012", 0, 0, 0, api.ErrBytes, 5},
		{"0o78", 0, 0, 0, api.ErrBytes, 3},
		{"12a", 0, 0, 0, api.ErrBytes, 2},
		{"1f2", 0, 0, 0, api.ErrBytes, 1},
		{"0xfg", 0, 0, 0, api.ErrBytes, 3},
		{"0xfG", 0, 0, 0, api.ErrBytes, 3},
		{"0zzh", 0, 0, 0, api.ErrBytes, 1},
		{"1hh", 0, 0, 0, api.ErrBytes, 1},
		{"1h2", 0, 0, 0, api.ErrBytes, 1},
		{"..12a", 2, 0, 0, api.ErrBytes, 4},
		{"..0x1g", 2, 0, 0, api.ErrBytes, 5},
	})
}

// P2.1: a _ stands between two digits, not doubled, nor first or last; a byte that is no digit counts as one for it.
func TestScanDivided(t *testing.T) {
	scanned(t, []row{
		{"1__0", 0, 0, 0, api.ErrBytes, 2},
		{"1___0", 0, 0, 0, api.ErrBytes, 2},
		{"1_0_0", 0, 100, 5, api.OK, 0},
		{"1_", 0, 0, 0, api.ErrBytes, 1},
		{"1__", 0, 0, 0, api.ErrBytes, 2},
		{"12_+", 0, 0, 0, api.ErrBytes, 2},
		{"1_h", 0, 0, 0, api.ErrBytes, 1},
		{"1_0h", 0, 16, 4, api.OK, 0},
		{"0_h", 0, 0, 0, api.ErrBytes, 1},
		{"0x_1", 0, 0, 0, api.ErrBytes, 2},
		{"0x_", 0, 0, 0, api.ErrBytes, 2},
		{"0x1_", 0, 0, 0, api.ErrBytes, 3},
		{"0x1_2", 0, 0x12, 5, api.OK, 0},
		{"0xf_f_f", 0, 0xfff, 7, api.OK, 0},
		{"0b_1", 0, 0, 0, api.ErrBytes, 2},
		{"0b1_0", 0, 2, 5, api.OK, 0},
		{"0o1_7", 0, 15, 5, api.OK, 0},
		{"0_x1", 0, 0, 0, api.ErrBytes, 2},
		{"1_g", 0, 0, 0, api.ErrBytes, 2},
		{"1g_", 0, 0, 0, api.ErrBytes, 1},
		{"1g_2", 0, 0, 0, api.ErrBytes, 1},
		{"..1__0", 2, 0, 0, api.ErrBytes, 4},
	})
}

// P2.1: numbers up to 2^64 - 1, modulo 2^64; above that a byte that is wrong comes first.
func TestScanRange(t *testing.T) {
	ones := strings.Repeat("1", 64)
	zeros := strings.Repeat("0", 3000)
	scanned(t, []row{
		{"9223372036854775807", 0, math.MaxInt, 19, api.OK, 0},
		{"9223372036854775808", 0, math.MinInt, 19, api.OK, 0},
		{"18446744073709551615", 0, -1, 20, api.OK, 0},
		{"18446744073709551616", 0, 0, 0, api.ErrRange, 0},
		{"18446744073709551620", 0, 0, 0, api.ErrRange, 0},
		{"18446744073709551625", 0, 0, 0, api.ErrRange, 0},
		{"36893488147419103232", 0, 0, 0, api.ErrRange, 0},
		{"340282366920938463463374607431768211456", 0, 0, 0, api.ErrRange, 0},
		{"18_446_744_073_709_551_615", 0, -1, 26, api.OK, 0},
		{"0xffffffffffffffff", 0, -1, 18, api.OK, 0},
		{"0x10000000000000000", 0, 0, 0, api.ErrRange, 0},
		{"0ffffffffffffffffh", 0, -1, 18, api.OK, 0},
		{"10000000000000000h", 0, 0, 0, api.ErrRange, 0},
		{"0b" + ones, 0, -1, 66, api.OK, 0},
		{"0b1" + ones, 0, 0, 0, api.ErrRange, 0},
		{"0o1777777777777777777777", 0, -1, 24, api.OK, 0},
		{"0o2000000000000000000000", 0, 0, 0, api.ErrRange, 0},
		{"+18446744073709551616", 1, 0, 0, api.ErrRange, 1},
		{"18446744073709551616a", 0, 0, 0, api.ErrBytes, 20},
		{"18446744073709551616_", 0, 0, 0, api.ErrBytes, 20},
		{zeros + "9", 0, 9, 3001, api.OK, 0},
		{"0x" + zeros + "f", 0, 15, 3003, api.OK, 0},
		{"1" + zeros, 0, 0, 0, api.ErrRange, 0},
		{"0x1" + zeros, 0, 0, 0, api.ErrRange, 0},
	})
}

// notationOf tells the same as the document's table, row by row: the digits, where they begin, their base.
func notationOf(w string) (string, int, int) {
	l := strings.ToLower(w)
	if strings.HasPrefix(l, "0x") && len(w) > 2 {
		return l[2:], 2, 16
	}
	if strings.HasSuffix(l, "h") {
		return l[:len(l)-1], 0, 16
	}
	if strings.HasPrefix(l, "0b") && len(w) > 2 {
		return l[2:], 2, 2
	}
	if strings.HasPrefix(l, "0o") && len(w) > 2 {
		return l[2:], 2, 8
	}
	return l, 0, 10
}

// wordOf tells what Scan answers for a text that is a word.
func wordOf(w string) row {
	digits, from, base := notationOf(w)
	for i, c := range digits {
		good := strings.ContainsRune("0123456789abcdef"[:base], c)
		if c == '_' {
			good = i > 0 && i < len(digits)-1 && digits[i-1] != '_'
		}
		if !good {
			return row{s: w, err: api.ErrBytes, wrong: from + i}
		}
	}
	n, _ := new(big.Int).SetString(strings.ReplaceAll(digits, "_", ""), base)
	if !n.IsUint64() {
		return row{s: w, err: api.ErrRange}
	}
	return row{s: w, n: int(n.Uint64()), end: len(w)}
}

// P2.1: all words of up to five bytes of some that matter, alone and within a text.
func TestScanAllShortWords(t *testing.T) {
	const bytes = "01279aBfgxXbhHoO_"
	words := []string{"0", "1", "9"}
	for range 4 {
		var longer []string
		for _, w := range words {
			for _, c := range bytes {
				longer = append(longer, w+string(c))
			}
		}
		for _, w := range words {
			checkWord(t, w)
		}
		words = longer
	}
	for _, w := range words {
		checkWord(t, w)
	}
}

// checkWord compares a word, alone and within a text, with what it should be.
func checkWord(t *testing.T, w string) {
	t.Helper()
	x := wordOf(w)
	scanned(t, []row{x})
	x.s, x.at = "_"+w+"-1", 1
	if x.err == api.OK {
		x.end++
	} else {
		x.wrong++
	}
	scanned(t, []row{x})
}

// P2.1: long words, around 2^64 and above, in each base.
func TestScanLongWords(t *testing.T) {
	edge := new(big.Int).Lsh(big.NewInt(1), 64)
	for _, times := range []int64{1, 2, 3, 7, 10, 15, 16, 17, 1 << 40} {
		for d := int64(-40); d <= 40; d++ {
			n := new(big.Int).Mul(edge, big.NewInt(times))
			n.Add(n, big.NewInt(d))
			checkWord(t, n.Text(10))
			checkWord(t, "0x"+n.Text(16))
			checkWord(t, "0"+n.Text(16)+"h")
			checkWord(t, "0b"+n.Text(2))
			checkWord(t, "0o"+n.Text(8))
		}
	}
}

// P2.3: words that differ only in _, or in capitals, are the same number.
func TestScanSameWords(t *testing.T) {
	for _, w := range []string{"0xdeadbeef", "0ffeeh", "123456789", "0b110101", "0o7654321", "0b1h", "0xabcdefabcdefabcd", "18446744073709551615"} {
		n, end, f := Scan(w, 0)
		if f != (api.Fault{}) || end != len(w) {
			t.Errorf("%s: %d, %v", w, end, f)
		}
		scanned(t, []row{{strings.ToUpper(w), 0, n, end, api.OK, 0}})
		_, from, _ := notationOf(w)
		for i := from + 1; i < len(w); i++ {
			if i == len(w)-1 && strings.HasSuffix(w, "h") {
				break
			}
			divided := w[:i] + "_" + w[i:]
			scanned(t, []row{{divided, 0, n, end + 1, api.OK, 0}, {strings.ToUpper(divided), 0, n, end + 1, api.OK, 0}})
		}
	}
}
