package vex

import (
	"math"

	"linotype/api"
)

// digits tells the lowest bits of a number as a text of 0 and 1; turned ones the other way round.
func digits(n, size int, turned bool) string {
	s := ""
	for i := size - 1; i >= 0; i-- {
		if one := n&(1<<i) != 0; one != turned {
			s += "1"
		} else {
			s += "0"
		}
	}
	return s
}

// bytesOf tells the bytes of a text of 0 and 1.
func bytesOf(s string) string {
	var b []byte
	for ; s != ""; s = s[8:] {
		c := byte(0)
		for i := range 8 {
			c = c*2 + s[i] - '0'
		}
		b = append(b, c)
	}
	return string(b)
}

// last tells L and pp.
func last(v api.Vex) string {
	pp := map[int]string{0: "00", api.PreSize: "01", api.PreF3: "10", api.PreF2: "11"}
	return digits(v.L, 1, false) + pp[v.Pre]
}

// long tells the bytes of the encoding with three, as the document has it.
func long(v api.Vex) string {
	return "\xc4" + bytesOf(digits(v.R, 1, true)+digits(v.X, 1, true)+digits(v.B, 1, true)+digits(v.Map, 5, false)+digits(v.W, 1, false)+digits(v.V, 4, true)+last(v))
}

// short tells the bytes of the encoding with two, as the document has it.
func short(v api.Vex) string {
	return "\xc5" + bytesOf(digits(v.R, 1, true)+digits(v.V, 4, true)+last(v))
}

// ways tells all encodings of contents, as the document has them.
func ways(v api.Vex, any bool) []string {
	if any {
		v.W = 0
	}
	l := []string{long(v)}
	if v.X == 0 && v.B == 0 && v.W == 0 && v.Map == 1 {
		l = []string{short(v), long(v)}
	}
	if any {
		v.W = 1
		l = append(l, long(v))
	}
	return l
}

// valid tells all contents that are valid.
func valid() []api.Vex {
	var l []api.Vex
	for n := range 32 * 3 * 16 * 4 {
		pre := []int{0, api.PreSize, api.PreF2, api.PreF3}[n%4]
		m := n / 4
		bits := m / 48
		l = append(l, api.Vex{R: bits & 1, X: bits >> 1 & 1, B: bits >> 2 & 1, W: bits >> 3 & 1, L: bits >> 4, Map: 1 + m%3, V: m / 3 % 16, Pre: pre})
	}
	return l
}

// written tells what there is by its bytes.
func written() map[string]api.Vex {
	l := map[string]api.Vex{}
	for _, v := range valid() {
		for _, b := range ways(v, false) {
			l[b] = v
		}
	}
	return l
}

// far tells numbers far from those of VEX: those that a narrower kind of number, or a mask, would take for one are among them.
func far() []int {
	l := []int{math.MinInt, math.MinInt + 1, math.MinInt + 2, math.MaxInt - 1, math.MaxInt}
	for n := 1; n <= 70; n++ {
		l = append(l, -n, 15+n)
	}
	for _, width := range []int{8, 16, 31, 32, 62, 63} {
		for n := range 16 {
			l = append(l, 1<<width+n, -1<<width+n)
		}
	}
	return l
}
