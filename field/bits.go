package field

// Fits tells whether a number is one of so many bits by its sign.
func Fits(n, bits int) bool {
	return counted(bits) && Sign(n, bits) == n
}

// Wide tells whether a number is one of so many bits by its sign, or without.
func Wide(n, bits int) bool {
	return Fits(n, bits) || counted(bits) && Low(n, bits) == n
}

// Sign tells the number of the lowest bits, the highest of them being its sign.
func Sign(n, bits int) int {
	if !counted(bits) {
		return 0
	}
	return n << (64 - bits) >> (64 - bits)
}

// Low tells the number of the lowest bits, without a sign where an int has room for that.
func Low(n, bits int) int {
	if !counted(bits) {
		return 0
	}
	return int(uint64(n) << (64 - bits) >> (64 - bits))
}

// counted tells whether a number may have so many bits.
func counted(bits int) bool {
	return bits >= 1 && bits <= 64
}
