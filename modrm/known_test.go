package modrm

import (
	"cmp"
	"math"
	"slices"

	"linotype/api"
)

// r64 tells a register of R64.
func r64(n int) api.Reg { return api.Reg{Class: api.R64, N: n} }

// The registers that places are made of in what follows.
var (
	rax = r64(0)
	rcx = r64(1)
	rbx = r64(3)
	rsp = r64(4)
	rbp = r64(5)
	r12 = r64(12)
	rip = api.Reg{Class: api.RIP}
)

// place tells an operand that is a place.
func place(m api.Mem) api.Arg { return api.Arg{Kind: api.ArgMem, M: m} }

// A start is ModRM, with a middle field of 0, and SIB, if there is one; with the bits X and B.
type start struct {
	bytes string
	x, b  int
}

// A meaning is what the document says of a start: a register's number (-1: it is a place); the canon of the place, but for the displacement; how many bytes that has; which of the six ways it is.
type meaning struct {
	reg       int
	m         api.Mem
	size, way int
}

// meanings tells all starts that there are; what is not among them is none.
func meanings() map[start]meaning {
	known := map[start]meaning{}
	for low := range 8 {
		for b := range 2 {
			known[start{string([]byte{byte(192 + low)}), 0, b}] = meaning{reg: 8*b + low}
			for mod, size := range []int{0, 1, 4} {
				if low != 4 && (mod > 0 || low != 5) {
					known[start{string([]byte{byte(64*mod + low)}), 0, b}] = meaning{-1, api.Mem{Base: r64(8*b + low)}, size, 3}
				}
			}
		}
	}
	known[start{"\x05", 0, 0}] = meaning{-1, api.Mem{Base: rip}, 4, 1}
	addIndexed(known)
	return known
}

// addIndexed adds the starts with SIB.
func addIndexed(known map[start]meaning) {
	// -1 is no index, and -1 is no base.
	for index := -1; index < 16; index++ {
		for base := -1; base < 16; base++ {
			for power := range 4 {
				if index == 4 || index < 0 && power > 0 {
					continue
				}
				for mod, size := range []int{0, 1, 4} {
					// Without a base mod is 0; with one whose low part is 5, mod 0 would say that there is none.
					if base < 0 && mod > 0 || base%8 == 5 && mod == 0 {
						continue
					}
					s, way := written(mod, power, index, base)
					if base < 0 {
						size = 4
					}
					known[s] = meaning{-1, registers(base, index, power), size, way}
				}
			}
		}
	}
}

// written tells a start with SIB, and which of the six ways it is.
func written(mod, power, index, base int) (start, int) {
	var s start
	sib, way := 64*power, 6
	if index < 0 {
		sib, way = sib+8*4, 4
	} else {
		sib, s.x = sib+8*(index%8), index/8
	}
	switch {
	case base >= 0:
		sib, s.b = sib+base%8, base/8
	case index >= 0 && power == 0:
		sib, way = sib+5, 5
	default:
		sib, way = sib+5, 2
	}
	s.bytes = string([]byte{byte(64*mod + 4), byte(sib)})
	return s, way
}

// registers tells the canon of a place with these registers (-1: none).
func registers(base, index, power int) api.Mem {
	switch {
	case base < 0 && index < 0:
		return api.Mem{}
	case base < 0 && power == 0:
		return api.Mem{Base: r64(index)}
	case base < 0:
		return api.Mem{Index: r64(index), Scale: 1 << power}
	case index < 0:
		return api.Mem{Base: r64(base)}
	}
	return api.Mem{Base: r64(base), Index: r64(index), Scale: 1 << power}
}

// expected tells all ways of each place but for its displacement, with that displacement and that middle field, in the document's order.
func expected(known map[start]meaning, disp, middle int) map[api.Mem][]api.Laid {
	type ranked struct {
		api.Laid
		way, size int
	}
	all := map[api.Mem][]ranked{}
	for s, k := range known {
		if k.reg >= 0 || k.size == 0 && disp != 0 || k.size == 1 && (disp < -128 || disp > 127) {
			continue
		}
		b := append([]byte(s.bytes), low(disp, k.size)...)
		b[0] += byte(8 * middle)
		all[k.m] = append(all[k.m], ranked{api.Laid{Bytes: b, X: s.x, B: s.b}, k.way, k.size})
	}
	l := map[api.Mem][]api.Laid{}
	for m, r := range all {
		slices.SortFunc(r, func(a, b ranked) int { return cmp.Or(a.way-b.way, a.size-b.size) })
		for _, w := range r {
			l[m] = append(l[m], w.Laid)
		}
	}
	return l
}

// low tells the lowest bytes of a number.
func low(n, size int) []byte {
	return []byte{byte(n), byte(n >> 8), byte(n >> 16), byte(n >> 24)}[:size]
}

// edges tells displacements: about the bounds of a byte, of a byte without a sign, of two bytes and of four.
func edges() []int {
	return []int{0, 1, -1, 5, 126, 127, 128, 129, -127, -128, -129, -130, 255, 256, -256, 32767, 32768, -32768, -32769, 65535, 65536, math.MaxInt32 - 1, math.MaxInt32, math.MinInt32, math.MinInt32 + 1}
}

// same tells whether two lists of ways are equal.
func same(a, b []api.Laid) bool {
	return slices.EqualFunc(a, b, func(v, w api.Laid) bool { return slices.Equal(v.Bytes, w.Bytes) && v.X == w.X && v.B == w.B })
}
