package rex

import (
	"slices"
	"testing"

	"linotype/api"
)

// P10.1: all prefixes with all REX.
func TestLay(t *testing.T) {
	if len(known()) != 6*17 {
		t.Fatal(len(known()))
	}
	for s, want := range known() {
		if b, err := Lay(s.pre, s.rex); string(b) != want || err != api.OK {
			t.Errorf("Lay(%d, %d) = %x, %v, not %x", s.pre, s.rex, b, err, want)
		}
	}
}

// P10.1: numbers that are no prefixes, and no REX; the prefixes count first.
func TestLayWrong(t *testing.T) {
	ask := func(pre, rex int, want api.Errno) {
		if b, err := Lay(pre, rex); len(b) != 0 || err != want {
			t.Errorf("Lay(%d, %d) = %x, %v, not %v", pre, rex, b, err, want)
		}
	}
	for _, pre := range append(far(), -1, 6, 7, 8, 9, 10, 11, 12, 13, 14, 15) {
		for rex := -3; rex <= 18; rex++ {
			ask(pre, rex, api.ErrArg)
		}
	}
	for _, rex := range far() {
		for pre := range legacy() {
			ask(pre, rex, api.ErrRange)
		}
		for _, pre := range []int{-1, 6, 7, 8} {
			ask(pre, rex, api.ErrArg)
		}
	}
}

// Rule 4 of the document: an answer is new memory, its spare capacity too.
func TestNewMemory(t *testing.T) {
	for s, want := range known() {
		first, _ := Lay(s.pre, s.rex)
		second, _ := Lay(s.pre, s.rex)
		for i := range first[:cap(first)] {
			first[:cap(first)][i] = 0x99
		}
		third, _ := Lay(s.pre, s.rex)
		if string(second) != want || string(third) != want || slices.Contains(second[:cap(second)], 0x99) {
			t.Errorf("answers about %v share memory", s)
		}
	}
}

// P10.1: the bits of all REX; zeros for what is none.
func TestBits(t *testing.T) {
	for rex, want := range bits() {
		if w, r, x, b := Bits(rex); [4]int{w, r, x, b} != want {
			t.Errorf("Bits(%d) = %d, %d, %d, %d, not %v", rex, w, r, x, b, want)
		}
	}
	for _, rex := range append(far(), -1) {
		if w, r, x, b := Bits(rex); w != 0 || r != 0 || x != 0 || b != 0 {
			t.Errorf("Bits(%d) = %d, %d, %d, %d", rex, w, r, x, b)
		}
	}
}

// P10.1: the REX of all bits.
func TestRex(t *testing.T) {
	for want, l := range bits() {
		if rex := Rex(l[0], l[1], l[2], l[3]); rex != want {
			t.Errorf("Rex of %v = %d, not %d", l, rex, want)
		}
	}
}

// P10.1: one bit, or some, that is neither 0 nor 1.
func TestRexWrong(t *testing.T) {
	ask := func(l [4]int) {
		if rex := Rex(l[0], l[1], l[2], l[3]); rex != -1 {
			t.Errorf("Rex of %v = %d", l, rex)
		}
	}
	for place := range 4 {
		for _, l := range bits() {
			for _, n := range append(far(), -1, 2, 3, 4, 5, 6, 7, 8, 9, 10, 11, 12, 13, 14, 15) {
				l[place] = n
				ask(l)
			}
		}
	}
	// What is wrong twice, and would come to a REX in sum.
	for _, l := range [][4]int{{0, 0, 2, -1}, {0, 0, -1, 3}, {0, 2, -1, -1}, {1, -1, 2, 0}, {2, -2, 0, 1}, {-1, 2, 1, 1}, {-1, -1, -1, -1}, {2, 2, 2, 2}} {
		ask(l)
	}
}
