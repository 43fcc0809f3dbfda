package rex

// The bits of REX.
const (
	bitB = 1 << iota
	bitX
	bitR
	bitW
)

// Rex tells a REX of its bits.
func Rex(w, r, x, b int) int {
	for _, n := range [4]int{w, r, x, b} {
		if n != 0 && n != 1 {
			return none
		}
	}
	return w*bitW + r*bitR + x*bitX + b*bitB
}

// Bits tells the bits of a REX.
func Bits(rex int) (int, int, int, int) {
	if !is(rex) {
		return 0, 0, 0, 0
	}
	var w, r, x, b int
	for left := rex; left != 0; left &= left - 1 {
		switch left & -left {
		case bitW:
			w = 1
		case bitR:
			r = 1
		case bitX:
			x = 1
		case bitB:
			b = 1
		}
	}
	return w, r, x, b
}

// is tells whether a number is that of a REX.
func is(rex int) bool {
	return rex >= 0 && rex <= bitW|bitR|bitX|bitB
}
