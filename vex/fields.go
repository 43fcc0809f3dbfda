package vex

import (
	"slices"

	"linotype/api"
)

// How many bits the fields have.
const (
	widthBit = 1
	widthMap = 5
	widthV   = 4
	widthPP  = 2
)

// Where fields stand that are turned, in the number that the bytes behind the first one are.
const (
	turnedV  = (1<<widthV - 1) << (widthBit + widthPP)
	turnedR2 = 1 << 7
	turnedB  = 1 << (8 + widthMap)
	turnedX  = turnedB << 1
	turnedR3 = turnedB << 2

	turnedTwo   = turnedR2 | turnedV
	turnedThree = turnedR3 | turnedX | turnedB | turnedV
)

// A field is a number, and in how many bits it is laid.
type field struct{ value, width int }

// lay tells the number of fields that stand one behind the other, the first one highest.
func lay(l []field) int {
	n := 0
	for _, f := range l {
		n = n<<f.width | f.value
	}
	return n
}

// fill gives fields the values that they have in a number, as lay makes it of them.
func fill(l []field, n int) {
	for i := len(l) - 1; i >= 0; i-- {
		l[i].value = n & (1<<l[i].width - 1)
		n >>= l[i].width
	}
}

// twoFields tells the fields of a VEX with two bytes.
func twoFields(v api.Vex) []field {
	return []field{{v.R, widthBit}, {v.V, widthV}, {v.L, widthBit}, {pp(v), widthPP}}
}

// threeFields tells the fields of a VEX with three bytes.
func threeFields(v api.Vex) []field {
	return []field{
		{v.R, widthBit}, {v.X, widthBit}, {v.B, widthBit}, {v.Map, widthMap},
		{v.W, widthBit}, {v.V, widthV}, {v.L, widthBit}, {pp(v), widthPP},
	}
}

// pp tells the number of the prefix that VEX stands for.
func pp(v api.Vex) int {
	return slices.Index(prefixes(), v.Pre)
}
