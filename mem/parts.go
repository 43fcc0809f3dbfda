package mem

import (
	"linotype/api"
	"linotype/reg"
)

// none tells whether a place has no register there.
func none(r api.Reg) bool {
	return r == api.Reg{}
}

// stack tells whether a register is rsp.
// Its number says in a SIB that there is no index: so it is one only where it can change places with the base.
func stack(r api.Reg) bool {
	return r == api.Reg{Class: api.R64, N: 4}
}

// sized tells whether a place may have a size.
func sized(size int) bool {
	switch size {
	case 0, 1, 2, 4, 8, 16, 32:
		return true
	}
	return false
}

// wide tells whether a register is one of R64.
func wide(r api.Reg) bool {
	return r.Class == api.R64 && reg.Valid(r)
}

// based tells whether a place may have a base.
func based(base api.Reg) bool {
	return none(base) || wide(base) || base.Class == api.RIP && reg.Valid(base)
}

// indexed tells whether the index of a place may be one, with its scale and its base.
func indexed(m api.Mem) bool {
	if none(m.Index) {
		return m.Scale == 0
	}
	_, is := scaled(m.Scale)
	switch {
	case !is || !wide(m.Index) || m.Base.Class == api.RIP:
		return false
	case stack(m.Index):
		return m.Scale == 1 && !stack(m.Base)
	}
	return true
}

// scaled tells by how many bits a scale shifts, and whether an index may have it.
func scaled(scale int) (int, bool) {
	shift, is := map[int]int{1: 0, 2: 1, 4: 2, 8: 3}[scale]
	return shift, is
}

// contents tells what a register of a place contains: 0 for none.
func contents(r api.Reg, regs []int, next int) int {
	switch r.Class {
	case api.R64:
		return regs[r.N]
	case api.RIP:
		return next
	}
	return 0
}

// sum tells the sum of numbers, modulo 2^64.
func sum(parts ...int) int {
	total := 0
	for _, part := range parts {
		total += part
	}
	return total
}
