package vex

import (
	"slices"
	"testing"

	"linotype/api"
)

// texts tells bytes as texts.
func texts(l [][]byte) []string {
	var s []string
	for _, b := range l {
		s = append(s, string(b))
	}
	return s
}

// P11.1: all contents that are valid, with W and whatever W is.
func TestAll(t *testing.T) {
	if len(valid()) != 6144 {
		t.Fatal(len(valid()))
	}
	for _, v := range valid() {
		if err := Check(v); err != api.OK {
			t.Errorf("Check(%v) = %v", v, err)
		}
		for _, any := range []bool{false, true} {
			if l, err := All(v, any); !slices.Equal(texts(l), ways(v, any)) || err != api.OK {
				t.Errorf("All(%v, %v) = %x, %v, not %x", v, any, l, err, ways(v, any))
			}
		}
	}
}

// P11.1: how many encodings there are, and which are possible with two bytes, written out.
func TestHowMany(t *testing.T) {
	for _, w := range []struct {
		v        api.Vex
		one, any int
	}{
		{api.Vex{Map: 1}, 2, 3}, {api.Vex{Map: 1, W: 1}, 1, 3}, {api.Vex{Map: 1, X: 1}, 1, 2}, {api.Vex{Map: 1, B: 1}, 1, 2}, {api.Vex{Map: 1, B: 1, W: 1}, 1, 2},
		{api.Vex{Map: 1, R: 1}, 2, 3}, {api.Vex{Map: 1, R: 1, V: 15, L: 1, Pre: api.PreF2}, 2, 3}, {api.Vex{Map: 2}, 1, 2}, {api.Vex{Map: 3}, 1, 2}, {api.Vex{Map: 3, W: 1}, 1, 2},
	} {
		one, _ := All(w.v, false)
		any, _ := All(w.v, true)
		if len(one) != w.one || len(any) != w.any {
			t.Errorf("%v has %d and %d encodings, not %d and %d", w.v, len(one), len(any), w.one, w.any)
		}
	}
}

// refused tells a test that contents aren't valid.
func refused(t *testing.T, v api.Vex) {
	if err := Check(v); err != api.ErrArg {
		t.Errorf("Check(%v) = %v", v, err)
	}
	for _, any := range []bool{false, true} {
		if l, err := All(v, any); len(l) != 0 || err != api.ErrArg {
			t.Errorf("All(%v, %v) = %x, %v", v, any, l, err)
		}
	}
}

// P11.1: contents of which one number is wrong. W counts though any is true.
func TestWrong(t *testing.T) {
	near := []int{-4, -3, -2, -1, 0, 1, 2, 3, 4, 5, 6, 7, 8, 9, 10, 11, 12, 13, 14, 15, 16, 17, 18}
	bit := []int{0, 1}
	for _, from := range []api.Vex{{Map: 1}, {R: 1, X: 1, B: 1, Map: 3, W: 1, V: 15, L: 1, Pre: api.PreF3}, {Map: 2, V: 7, Pre: api.PreSize}} {
		v := from
		for _, w := range []struct {
			at    *int
			right []int
		}{
			{&v.R, bit}, {&v.X, bit}, {&v.B, bit}, {&v.W, bit}, {&v.L, bit}, {&v.Map, []int{1, 2, 3}},
			{&v.V, []int{0, 1, 2, 3, 4, 5, 6, 7, 8, 9, 10, 11, 12, 13, 14, 15}}, {&v.Pre, []int{0, 1, 2, 4}},
		} {
			for _, n := range append(far(), near...) {
				*w.at = n
				if slices.Contains(w.right, n) {
					if err := Check(v); err != api.OK {
						t.Errorf("Check(%v) = %v", v, err)
					}
					continue
				}
				refused(t, v)
			}
			v = from
		}
	}
}

// P11.1: contents that are wrong more than once, also such as would come to a VEX in sum.
func TestWrongTwice(t *testing.T) {
	for _, v := range []api.Vex{
		{}, {R: 2, X: -2, Map: 1}, {X: -1, B: 2, Map: 1}, {Map: 33, B: -1}, {Map: 0, B: 1}, {Map: 4, W: 2}, {Map: 1, V: 16, W: -1}, {Map: 1, W: 1, V: -16},
		{Map: 1, L: -1, V: 16}, {Map: 1, L: 2, V: -1}, {Map: 1, L: 1, Pre: -4}, {Map: 1, Pre: api.PreSize | api.PreF2}, {Map: 1, Pre: api.PreSize | api.PreF3},
		{Map: 1, Pre: api.PreF2 | api.PreF3}, {Map: 1, Pre: 7}, {R: -1, X: -1, B: -1, Map: -1, W: -1, V: -1, L: -1, Pre: -1},
	} {
		refused(t, v)
	}
}

// Rule 4 of the document: an answer is new memory, its spare capacity too, and no two lists of it share any.
func TestNewMemory(t *testing.T) {
	for _, v := range valid() {
		for _, any := range []bool{false, true} {
			want := ways(v, any)
			first, _ := All(v, any)
			second, _ := All(v, any)
			for i := range first {
				b := append(first[i], 0x99)[:len(first[i])]
				for j := range b[:cap(b)] {
					b[:cap(b)][j] = 0x99
				}
				for j := range first[i][:cap(first[i])] {
					first[i][:cap(first[i])][j] = 0x99
				}
				if third, _ := All(v, any); !slices.Equal(texts(second), want) || !slices.Equal(texts(third), want) || !slices.Equal(texts(first[i+1:]), want[i+1:]) {
					t.Fatalf("answers about %v share memory", v)
				}
			}
			clear(first[:cap(first)])
			if !slices.Equal(texts(second), want) {
				t.Fatalf("lists about %v share memory", v)
			}
		}
	}
}
