package operand

import "linotype/api"

// Imm tells a number in a number of bits, with a sign or without.
func Imm(n, bits int, signed bool) (int, api.Errno) {
	if !wide(bits) {
		return 0, api.ErrArg
	}
	with, without := cut(n, bits)
	switch {
	case n != with && n != without:
		return 0, api.ErrRange
	case signed:
		return with, api.OK
	}
	return without, api.OK
}

// wide tells whether a number may be in so many bits.
func wide(bits int) bool {
	switch bits {
	case 8, 16, 32, 64:
		return true
	}
	return false
}

// cut tells the lowest bits of a number with a sign and without one; all 64 are the number itself, both ways.
func cut(n, bits int) (with, without int) {
	above := 64 - bits
	return n << above >> above, int(uint64(n) << above >> above)
}
