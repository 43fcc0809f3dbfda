package vex

import "linotype/api"

// Read tells the contents of the VEX that bytes begin with, and how many bytes it has.
func Read(b []byte) (api.Vex, int, api.Errno) {
	if len(b) == 0 {
		return api.Vex{}, 0, api.ErrCut
	}
	switch b[0] {
	case leadTwo:
		return readTwo(b[1:])
	case leadThree:
		return readThree(b[1:])
	}
	return api.Vex{}, 0, api.ErrBytes
}

// readTwo reads what is behind the first byte of a VEX with two.
func readTwo(b []byte) (api.Vex, int, api.Errno) {
	if len(b) == 0 {
		return api.Vex{}, 0, api.ErrCut
	}
	l := twoFields(api.Vex{})
	fill(l, int(b[0])^turnedTwo)
	return api.Vex{R: l[0].value, Map: firstMap, V: l[1].value, L: l[2].value, Pre: prefixes()[l[3].value]}, 2, api.OK
}

// readThree reads what is behind the first byte of a VEX with three. The map comes ahead of the last byte: a wrong one isn't cut, whatever may follow.
func readThree(b []byte) (api.Vex, int, api.Errno) {
	if len(b) == 0 {
		return api.Vex{}, 0, api.ErrCut
	}
	if !isMap(int(b[0]) & (1<<widthMap - 1)) {
		return api.Vex{}, 0, api.ErrBytes
	}
	if len(b) == 1 {
		return api.Vex{}, 0, api.ErrCut
	}
	l := threeFields(api.Vex{})
	fill(l, (int(b[0])<<8|int(b[1]))^turnedThree)
	v := api.Vex{R: l[0].value, X: l[1].value, B: l[2].value, Map: l[3].value}
	v.W, v.V, v.L, v.Pre = l[4].value, l[5].value, l[6].value, prefixes()[l[7].value]
	return v, 3, api.OK
}
