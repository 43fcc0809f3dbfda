package rex

import "math"

// A set is prefixes, and REX (-1: none).
type set struct{ pre, rex int }

// legacy tells the sets of prefixes, and their bytes, as the document has them.
func legacy() map[int]string {
	return map[int]string{0: "", 1: "\x66", 2: "\xf2", 3: "\x66\xf2", 4: "\xf3", 5: "\x66\xf3"}
}

// known tells what there is, and its bytes.
func known() map[set]string {
	l := map[set]string{}
	for pre, b := range legacy() {
		l[set{pre, -1}] = b
		for rex, c := range []byte("@ABCDEFGHIJKLMNO") { // 64 to 79
			l[set{pre, rex}] = b + string([]byte{c})
		}
	}
	return l
}

// written tells what there is by its bytes.
func written() map[string]set {
	l := map[string]set{}
	for s, b := range known() {
		l[b] = s
	}
	return l
}

// bits tells w, r, x and b of each REX, as the document has them.
func bits() [][4]int {
	return [][4]int{
		{0, 0, 0, 0}, {0, 0, 0, 1}, {0, 0, 1, 0}, {0, 0, 1, 1}, {0, 1, 0, 0}, {0, 1, 0, 1}, {0, 1, 1, 0}, {0, 1, 1, 1},
		{1, 0, 0, 0}, {1, 0, 0, 1}, {1, 0, 1, 0}, {1, 0, 1, 1}, {1, 1, 0, 0}, {1, 1, 0, 1}, {1, 1, 1, 0}, {1, 1, 1, 1},
	}
}

// far tells numbers that are none of these: those that a narrower kind of number, or a mask, would take for one are among them.
func far() []int {
	l := []int{math.MinInt, math.MinInt + 1, math.MinInt + 8, math.MaxInt - 1, math.MaxInt}
	for n := 1; n <= 300; n++ {
		l = append(l, -1-n, 15+n)
	}
	for _, width := range []int{8, 16, 31, 32, 62} {
		for n := range 16 {
			l = append(l, 1<<width+n, -1<<width+n)
		}
	}
	return l
}
