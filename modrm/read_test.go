package modrm

import (
	"math"
	"slices"
	"testing"

	"linotype/api"
	"linotype/mem"
)

// tails tells bytes that may stand behind ModRM and SIB: the displacements of one byte and of four that they begin with are edges.
func tails() [][]byte {
	return [][]byte{{0, 0, 0, 0, 0}, {5, 0, 0, 0, 9}, {0x7f, 0xff, 0xff, 0xff, 0x7f}, {0x80, 0, 0, 0x80, 0x80}, {0xff, 0xff, 0xff, 0x7f, 0xff}, {0x81, 0xff, 0xff, 0xff}, {1, 2, 3, 4, 5, 6, 7, 8, 9, 10, 11, 12, 13, 14, 15, 16, 17, 18}}
}

// number tells the number of bytes, the lowest one first, with a sign.
func number(b []byte) int {
	n := 0
	for i, c := range b {
		n += int(c) << (8 * i)
	}
	if len(b) > 0 && b[len(b)-1] > 127 {
		n -= 1 << (8 * len(b))
	}
	return n
}

// told tells what the document says of bytes, from the first one on.
func told(known map[start]meaning, b []byte, x, bb int) (api.Seen, api.Errno) {
	if len(b) == 0 {
		return api.Seen{}, api.ErrCut
	}
	middle := int(b[0]) / 8 % 8
	plain := b[0] &^ (7 * 8)
	size := 1
	if plain < 192 && plain%8 == 4 {
		size = 2
	}
	if len(b) < size {
		return api.Seen{}, api.ErrCut
	}
	k, is := known[start{string(append([]byte{plain}, b[1:size]...)), x, bb}]
	switch {
	case !is:
		return api.Seen{}, api.ErrBytes
	case len(b) < size+k.size:
		return api.Seen{}, api.ErrCut
	}
	k.m.Disp = number(b[size : size+k.size])
	return api.Seen{Field: middle, Reg: k.reg, M: k.m, Ends: size + k.size}, api.OK
}

// P9.2: all ModRM, all SIB, all bits, with displacements at bounds and with too few bytes.
func TestBytes(t *testing.T) {
	known := meanings()
	ask := func(b []byte, x, bb int) {
		want, bad := told(known, b, x, bb)
		if got, err := Read(b, 0, x, bb); got != want || err != bad {
			t.Fatalf("Read(%v, 0, %d, %d) = %+v, %v, not %+v, %v", b, x, bb, got, err, want, bad)
		}
	}
	for bits := range 4 {
		ask(nil, bits/2, bits%2)
		ask([]byte{}, bits/2, bits%2)
		for first := range 256 {
			ask([]byte{byte(first)}, bits/2, bits%2)
			for second := range 256 {
				for _, tail := range tails() {
					ask(append([]byte{byte(first), byte(second)}, tail...), bits/2, bits%2)
				}
				for size := range 5 {
					ask(append([]byte{byte(first), byte(second)}, tails()[1][:size]...), bits/2, bits%2)
				}
			}
		}
	}
}

// P9.2: as soon as the bytes are none of the ways that is told, though a displacement is missing; ahead of that they are cut.
func TestCutOrWrong(t *testing.T) {
	for _, w := range []struct {
		b     []byte
		x, bb int
		err   api.Errno
	}{
		{nil, 0, 0, api.ErrCut}, {nil, 1, 1, api.ErrCut},
		{[]byte{0xc1}, 1, 0, api.ErrBytes}, {[]byte{0xc4}, 1, 1, api.ErrBytes}, {[]byte{0xc4}, 0, 1, api.OK},
		{[]byte{0x00}, 1, 0, api.ErrBytes}, {[]byte{0x40}, 1, 0, api.ErrBytes}, {[]byte{0x80}, 1, 0, api.ErrBytes}, {[]byte{0x40}, 0, 1, api.ErrCut}, {[]byte{0x80, 0, 0, 0}, 0, 1, api.ErrCut},
		{[]byte{0x05}, 0, 0, api.ErrCut}, {[]byte{0x05}, 0, 1, api.ErrBytes}, {[]byte{0x05}, 1, 0, api.ErrBytes}, {[]byte{0x05, 0, 0, 0, 0}, 0, 1, api.ErrBytes}, {[]byte{0x45, 0}, 0, 1, api.OK},
		{[]byte{0x04}, 0, 0, api.ErrCut}, {[]byte{0x04}, 1, 1, api.ErrCut}, {[]byte{0x44}, 1, 1, api.ErrCut}, {[]byte{0x84}, 1, 1, api.ErrCut},
		{[]byte{0x04, 0x25}, 0, 0, api.ErrCut}, {[]byte{0x04, 0x25}, 0, 1, api.ErrBytes}, {[]byte{0x04, 0x25}, 1, 0, api.ErrCut}, {[]byte{0x04, 0x25}, 1, 1, api.ErrBytes}, {[]byte{0x04, 0x0d}, 0, 1, api.ErrBytes},
		{[]byte{0x44, 0x25}, 0, 1, api.ErrCut}, {[]byte{0x44, 0x25, 0}, 1, 1, api.OK}, {[]byte{0x84, 0x25, 0, 0, 0, 0}, 1, 1, api.OK},
		{[]byte{0x04, 0x60}, 0, 0, api.ErrBytes}, {[]byte{0x04, 0x60}, 1, 0, api.OK}, {[]byte{0x44, 0xa0}, 0, 0, api.ErrBytes}, {[]byte{0x84, 0xe4}, 0, 1, api.ErrBytes}, {[]byte{0x84, 0xe4}, 1, 1, api.ErrCut}, {[]byte{0x04, 0x65}, 0, 0, api.ErrBytes},
		{[]byte{0x84, 0x24, 1, 2, 3}, 0, 0, api.ErrCut}, {[]byte{0x84, 0x24, 1, 2, 3, 4}, 0, 0, api.OK},
	} {
		s, err := Read(w.b, 0, w.x, w.bb)
		if err != w.err || err != api.OK && s != (api.Seen{}) {
			t.Errorf("Read(%x, 0, %d, %d) = %+v, %v, not %v", w.b, w.x, w.bb, s, err, w.err)
		}
	}
}

// P9.2: from any place on, in bytes that are longer than an instruction; what is ahead of it does not count, and where it ends is told from the first byte on.
func TestFromAPlace(t *testing.T) {
	known := meanings()
	b := make([]byte, 300)
	for i := range b {
		b[i] = byte(i*i*7 + i*3)
	}
	for size := range b {
		for at := range size + 1 {
			for bits := range 4 {
				want, bad := told(known, b[at:size], bits/2, bits%2)
				if bad == api.OK {
					want.Ends += at
				}
				if got, err := Read(b[:size], at, bits/2, bits%2); got != want || err != bad {
					t.Fatalf("Read(%v, %d, %d, %d) = %+v, %v, not %+v, %v", b[:size], at, bits/2, bits%2, got, err, want, bad)
				}
			}
		}
	}
}

// P9.2: places and bits that there are not.
func TestWrongArguments(t *testing.T) {
	for _, b := range [][]byte{nil, {}, {0}, {5, 0, 0, 0, 0}, {0x44, 0x20, 5}, {0xc0}} {
		for _, at := range []int{-1, -2, len(b) + 1, len(b) + 2, 1 << 32, math.MinInt, math.MaxInt} {
			for bits := range 4 {
				if s, err := Read(b, at, bits/2, bits%2); err != api.ErrRange || s != (api.Seen{}) {
					t.Errorf("Read(%v, %d) = %+v, %v", b, at, s, err)
				}
			}
		}
		for _, n := range []int{-1, 2, 3, 8, 1 << 8, 1 << 32, 1<<32 + 1, math.MinInt, math.MaxInt} {
			for _, bits := range [][2]int{{n, 0}, {0, n}, {n, 1}, {1, n}, {n, n}} {
				for at := range len(b) + 1 {
					if s, err := Read(b, at, bits[0], bits[1]); err != api.ErrRange || s != (api.Seen{}) {
						t.Errorf("Read(%v, %d, %v) = %+v, %v", b, at, bits, s, err)
					}
				}
			}
		}
	}
}

// Rule 4 of the document: bytes are not changed, and spare capacity is not read.
func TestBytesAreKept(t *testing.T) {
	whole := []byte{0x84, 0x24, 1, 2, 3, 4, 5}
	before := slices.Clone(whole)
	for size := range 6 {
		if s, err := Read(whole[:size], 0, 0, 0); err != api.ErrCut || s != (api.Seen{}) {
			t.Errorf("%d bytes: %+v, %v", size, s, err)
		}
	}
	if _, err := Read(whole[:6], 0, 0, 0); err != api.OK || !slices.Equal(whole, before) {
		t.Error(err, whole)
	}
}

// P9.2: what is read has the address that the bytes tell, whatever registers contain.
func TestAddresses(t *testing.T) {
	regs := make([]int, 16)
	for i := range regs {
		regs[i] = (i + 3) * 0x1234_5678_9abc_def1
	}
	next := 0x7000_0000_1234
	for bits := range 4 {
		x, bb := bits/2, bits%2
		for first := range 192 {
			for second := range 256 {
				b := []byte{byte(first), byte(second), 0x9a, 0xff, 0x12, 0x80}
				s, err := Read(b, 0, x, bb)
				if err != api.OK {
					continue
				}
				if got, err := mem.Address(s.M, regs, next); err != api.OK || got != sum(b, x, bb, s.Ends, regs, next) {
					t.Fatalf("Read(%x, 0, %d, %d) = %+v: %v", b, x, bb, s, err)
				}
			}
		}
	}
}

// sum tells the address of bytes that tell a place, given where they end: what the registers contain, and what of the bytes is left.
func sum(b []byte, x, bb, ends int, regs []int, next int) int {
	mod, rm, at, total := b[0]>>6, b[0]&7, 1, 0
	if rm == 4 {
		index := 8*x + int(b[1]>>3&7)
		if index != 4 {
			total += regs[index] << (b[1] >> 6)
		}
		rm, at = b[1]&7, 2
	} else if rm == 5 && mod == 0 {
		total += next
	}
	if rm != 5 || mod != 0 {
		total += regs[8*bb+int(rm)]
	}
	return total + number(b[at:ends])
}
