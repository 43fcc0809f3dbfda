package literal

import (
	"strings"
	"testing"

	"linotype/api"
)

// P2.1: literals of texts, from one byte to eight, the first being the lowest.
func TestScanText(t *testing.T) {
	scanned(t, []row{
		{"'ab'", 0, 25185, 4, api.OK, 0},
		{"'a'", 0, 97, 3, api.OK, 0},
		{"' '", 0, 32, 3, api.OK, 0},
		{"'~'", 0, 126, 3, api.OK, 0},
		{"'\"'", 0, 34, 3, api.OK, 0},
		{"';'", 0, 59, 3, api.OK, 0},
		{"'1_h'", 0, 0x685f31, 5, api.OK, 0},
		{"'1234567'", 0, 0x37363534333231, 9, api.OK, 0},
		{"'12345678'", 0, 0x3837363534333231, 10, api.OK, 0},
		{"'~~~~~~~~'", 0, 0x7e7e7e7e7e7e7e7e, 10, api.OK, 0},
		{"'a'b'", 0, 97, 3, api.OK, 0},
		{"'a''b'", 3, 98, 6, api.OK, 0},
		{"mov 'a'", 4, 97, 7, api.OK, 0},
		{"'a'1", 0, 97, 3, api.OK, 0},
	})
}

// P2.1: every byte, as the first one, as the eighth, and as the ninth, which may be ' alone.
func TestScanTextBytes(t *testing.T) {
	for c := range 256 {
		s := string([]byte{byte(c)})
		rows := []row{
			{"'" + s + "'", 0, c, 3, api.OK, 0},
			{"'AAAAAAA" + s + "'", 0, 0x41414141414141 | c<<56, 10, api.OK, 0},
			{"'AAAAAAAA" + s + "'", 0, 0, 0, api.ErrLong, 9},
		}
		if c < 32 || c > 126 {
			rows = []row{
				{"'" + s + "'", 0, 0, 0, api.ErrBytes, 1},
				{"'AAAAAAA" + s + "'", 0, 0, 0, api.ErrBytes, 8},
				{"'AAAAAAAA" + s + "'", 0, 0, 0, api.ErrBytes, 9},
			}
		}
		if c == '\'' {
			rows = []row{
				{"'''", 0, 0, 0, api.ErrBytes, 1},
				{"'AAAAAAA''", 0, 0x41414141414141, 9, api.OK, 0},
				{"'AAAAAAAA''", 0, 0x4141414141414141, 10, api.OK, 0},
			}
		}
		scanned(t, rows)
	}
}

// P2.1: texts that are empty, or too long, or that do not end; the first byte that is wrong counts.
func TestScanTextWrong(t *testing.T) {
	scanned(t, []row{
		{"''", 0, 0, 0, api.ErrBytes, 1},
		{"''a'", 0, 0, 0, api.ErrBytes, 1},
		{"'", 0, 0, 0, api.ErrBytes, 1},
		{"x'", 1, 0, 0, api.ErrBytes, 2},
		{"'a", 0, 0, 0, api.ErrBytes, 2},
		{"'a'", 2, 0, 0, api.ErrBytes, 3},
		{"'12345678", 0, 0, 0, api.ErrBytes, 9},
		{"'123456789", 0, 0, 0, api.ErrLong, 9},
		{"'123456789'", 0, 0, 0, api.ErrLong, 9},
		{"..'123456789'", 2, 0, 0, api.ErrLong, 11},
		{"'" + strings.Repeat("a", 3000), 0, 0, 0, api.ErrLong, 9},
		{"'a\tb'", 0, 0, 0, api.ErrBytes, 2},
		{"'a\n123456789'", 0, 0, 0, api.ErrBytes, 2},
		{"'\u00e9'", 0, 0, 0, api.ErrBytes, 1},
		{"'12345678\n'", 0, 0, 0, api.ErrBytes, 9},
		{"'123456789\n'", 0, 0, 0, api.ErrLong, 9},
	})
}
