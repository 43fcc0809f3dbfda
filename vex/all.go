package vex

import "linotype/api"

// All tells each way in which contents are laid, the shortest one first; if any, W says nothing, and both of its values count.
func All(v api.Vex, any bool) ([][]byte, api.Errno) {
	if err := Check(v); err != api.OK {
		return nil, err
	}
	if any {
		v.W = 0
	}
	var l [][]byte
	if v.X == 0 && v.B == 0 && v.W == 0 && v.Map == firstMap {
		l = append(l, two(v))
	}
	l = append(l, three(v))
	if any {
		v.W = 1
		l = append(l, three(v))
	}
	return l, api.OK
}

// two lays contents with two bytes, which have no room for X, B, W and the map.
func two(v api.Vex) []byte {
	n := lay(twoFields(v)) ^ turnedTwo
	return []byte{leadTwo, byte(n)}
}

// three lays contents with three bytes.
func three(v api.Vex) []byte {
	n := lay(threeFields(v)) ^ turnedThree
	return []byte{leadThree, byte(n >> 8), byte(n)}
}
