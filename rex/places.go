package rex

import "linotype/api"

// place is where one of some prefixes may stand, ahead of REX: which ones these are, and their bytes.
type place struct {
	pre   []int
	bytes []byte
}

// places tells the two, in the order in which they are encoded.
func places() [2]place {
	return [2]place{
		{[]int{api.PreSize}, []byte{0x66}},
		{[]int{api.PreF2, api.PreF3}, []byte{0xf2, 0xf3}},
	}
}

// add adds the byte of the prefix that stands here, if there is one.
func (p place) add(b []byte, pre int) []byte {
	for i, one := range p.pre {
		if pre&one != 0 {
			b = append(b, p.bytes[i])
		}
	}
	return b
}

// read tells the prefix that bytes begin with, 0 if it is none of this place.
func (p place) read(b []byte) int {
	if len(b) == 0 {
		return 0
	}
	for i, c := range p.bytes {
		if c == b[0] {
			return p.pre[i]
		}
	}
	return 0
}

// valid tells whether a number is that of a set of prefixes.
func valid(pre int) bool {
	const all, both = api.PreSize | api.PreF2 | api.PreF3, api.PreF2 | api.PreF3
	return pre >= 0 && pre <= all && pre&both != both
}
