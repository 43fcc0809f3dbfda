package modrm

import (
	"math"
	"slices"
	"testing"

	"linotype/api"
)

// P9.1: all ways of all places, in order, with all middle fields and the displacements at all bounds.
func TestPlaces(t *testing.T) {
	known := meanings()
	for _, disp := range edges() {
		for middle := range 8 {
			l := expected(known, disp, middle)
			if len(l) != 1+1+15*3+16+16*15*4 {
				t.Fatalf("%d places", len(l))
			}
			for m, want := range l {
				m.Disp = disp
				if got, err := All(middle, place(m)); err != api.OK || !same(got, want) {
					t.Fatalf("All(%d, %+v) = %v, %v, not %v", middle, m, got, err, want)
				}
			}
		}
	}
}

// P9.1: how many ways there are, by the words of the chapter.
func TestHowMany(t *testing.T) {
	for _, w := range []struct {
		m    api.Mem
		want []int // with a displacement of 0, of one byte, of four bytes
	}{
		{api.Mem{Base: rip}, []int{1, 1, 1}}, {api.Mem{}, []int{1, 1, 1}}, {api.Mem{Index: rcx, Scale: 2}, []int{1, 1, 1}}, {api.Mem{Index: r12, Scale: 8}, []int{1, 1, 1}},
		{api.Mem{Base: rax}, []int{7, 5, 3}}, {api.Mem{Base: rbp}, []int{5, 5, 3}}, {api.Mem{Base: r64(13)}, []int{5, 5, 3}}, {api.Mem{Base: rsp}, []int{3, 2, 1}}, {api.Mem{Base: r12}, []int{4, 3, 2}},
		{api.Mem{Base: rbx, Index: rcx, Scale: 1}, []int{3, 2, 1}}, {api.Mem{Base: rbp, Index: rcx, Scale: 4}, []int{2, 2, 1}}, {api.Mem{Base: r64(13), Index: r12, Scale: 1}, []int{2, 2, 1}},
	} {
		for n, disp := range []int{0, -128, 128} {
			w.m.Disp = disp
			if l, err := All(3, place(w.m)); len(l) != w.want[n] || err != api.OK {
				t.Errorf("%+v: %d ways, %v", w.m, len(l), err)
			}
		}
	}
}

// P9.1: some ways as bytes that are written out.
func TestWritten(t *testing.T) {
	for _, w := range []struct {
		middle int
		m      api.Mem
		want   []api.Laid
	}{
		{0, api.Mem{Base: rsp, Disp: 8}, []api.Laid{{Bytes: []byte{0x44, 0x24, 8}}, {Bytes: []byte{0x84, 0x24, 8, 0, 0, 0}}}},
		{7, api.Mem{Base: rsp, Disp: 0x12345678}, []api.Laid{{Bytes: []byte{0xbc, 0x24, 0x78, 0x56, 0x34, 0x12}}}},
		{5, api.Mem{Base: rip, Disp: -2}, []api.Laid{{Bytes: []byte{0x2d, 0xfe, 0xff, 0xff, 0xff}}}},
		{2, api.Mem{Disp: -1 << 31}, []api.Laid{{Bytes: []byte{0x14, 0x25, 0, 0, 0, 0x80}}}},
		{1, api.Mem{Index: r64(9), Scale: 8, Disp: 1}, []api.Laid{{Bytes: []byte{0x0c, 0xcd, 1, 0, 0, 0}, X: 1}}},
		{0, api.Mem{Base: rbx, Index: r64(9), Scale: 8, Disp: 16}, []api.Laid{{Bytes: []byte{0x44, 0xcb, 16}, X: 1}, {Bytes: []byte{0x84, 0xcb, 16, 0, 0, 0}, X: 1}}},
		{0, api.Mem{Base: r64(13), Index: r12, Scale: 1}, []api.Laid{{Bytes: []byte{0x44, 0x25, 0}, X: 1, B: 1}, {Bytes: []byte{0x84, 0x25, 0, 0, 0, 0}, X: 1, B: 1}}},
		{6, api.Mem{Base: r12, Disp: 0x80}, []api.Laid{{Bytes: []byte{0xb4, 0x24, 0x80, 0, 0, 0}, B: 1}, {Bytes: []byte{0x34, 0x25, 0x80, 0, 0, 0}, X: 1}}},
		{4, api.Mem{Base: r64(13), Disp: -128}, []api.Laid{
			{Bytes: []byte{0x65, 0x80}, B: 1}, {Bytes: []byte{0xa5, 0x80, 0xff, 0xff, 0xff}, B: 1},
			{Bytes: []byte{0x64, 0x25, 0x80}, B: 1}, {Bytes: []byte{0xa4, 0x25, 0x80, 0xff, 0xff, 0xff}, B: 1},
			{Bytes: []byte{0x24, 0x2d, 0x80, 0xff, 0xff, 0xff}, X: 1},
		}},
	} {
		if got, err := All(w.middle, place(w.m)); err != api.OK || !same(got, w.want) {
			t.Errorf("All(%d, %+v) = %v, %v, not %v", w.middle, w.m, got, err, w.want)
		}
	}
}

// P9.1: what yields the ways may be left behind any of them.
func TestLeft(t *testing.T) {
	for _, m := range []api.Mem{{Base: rax}, {Base: r12, Disp: 5}, {Base: rip}, {Base: rbx, Index: rcx, Scale: 2}} {
		l, _ := All(3, place(m))
		for n := range l {
			var got []api.Laid
			for w := range ways(3, m) {
				got = append(got, w)
				if len(got) > n {
					break
				}
			}
			if !same(got, l[:n+1]) {
				t.Errorf("%+v, left behind %d: %v", m, n+1, got)
			}
		}
	}
}

// P9.1: a place counts as its canon; its Size, and what else an operand has, does not count.
func TestSamePlaces(t *testing.T) {
	type pair struct{ m, canon api.Mem }
	l := []pair{{api.Mem{Index: rsp, Scale: 1}, api.Mem{Base: rsp}}}
	for n := range 16 {
		l = append(l, pair{api.Mem{Base: r64(n)}, api.Mem{Base: r64(n)}}, pair{api.Mem{Index: r64(n), Scale: 1}, api.Mem{Base: r64(n)}})
		if n != 4 {
			l = append(l, pair{api.Mem{Base: r64(n), Index: rsp, Scale: 1}, api.Mem{Base: rsp, Index: r64(n), Scale: 1}}, pair{api.Mem{Index: r64(n), Scale: 4}, api.Mem{Index: r64(n), Scale: 4}})
		}
	}
	known := meanings()
	for _, disp := range []int{0, 127, 128} {
		ways := expected(known, disp, 6)
		for _, p := range l {
			want := ways[p.canon]
			for _, size := range []int{0, 1, 2, 4, 8, 16, 32} {
				p.m.Disp, p.m.Size = disp, size
				for _, a := range []api.Arg{place(p.m), {Kind: api.ArgMem, M: p.m, N: 7, R: api.Reg{Class: 99, N: -1}}} {
					if got, err := All(6, a); err != api.OK || len(want) == 0 || !same(got, want) {
						t.Errorf("All(6, %+v) = %v, %v, not %v", a, got, err, want)
					}
				}
			}
		}
	}
}

// P9.1: all registers of all classes, each in one way.
func TestRegisters(t *testing.T) {
	count := 0
	for class := api.R8; class <= api.Y; class++ {
		for n := range 16 {
			if class == api.R8H && (n < 4 || n > 7) {
				continue
			}
			for middle := range 8 {
				want := []api.Laid{{Bytes: []byte{byte(0xc0 + 8*middle + n%8)}, B: n / 8}}
				for _, a := range []api.Arg{{}, {N: -1, M: api.Mem{Base: rbx, Scale: 3, Disp: 1 << 40}}} {
					a.Kind, a.R = api.ArgReg, api.Reg{Class: class, N: n}
					if got, err := All(middle, a); err != api.OK || !same(got, want) {
						t.Errorf("All(%d, %+v) = %v, %v, not %v", middle, a, got, err, want)
					}
				}
			}
			count++
		}
	}
	if count != 6*16+4 {
		t.Error(count)
	}
}

// wrong tells operands of which there is no way, and why.
func wrong() map[api.Arg]api.Errno {
	return map[api.Arg]api.Errno{
		{}: api.ErrArg, {Kind: 5}: api.ErrArg, {Kind: -1, R: rax}: api.ErrArg, {Kind: math.MaxInt}: api.ErrArg, {Kind: 1<<32 + 1, R: rax}: api.ErrArg, {Kind: 1<<8 + 2}: api.ErrArg,
		{Kind: api.ArgReg}: api.ErrArg, {Kind: api.ArgReg, R: rip}: api.ErrArg, {Kind: api.ArgReg, R: r64(16)}: api.ErrArg, {Kind: api.ArgReg, R: r64(-1)}: api.ErrArg,
		{Kind: api.ArgReg, R: api.Reg{Class: api.R8H, N: 3}}: api.ErrArg, {Kind: api.ArgReg, R: api.Reg{Class: 9}}: api.ErrArg,
		{Kind: api.ArgImm}: api.ErrArg, {Kind: api.ArgImm, N: 5, R: rax}: api.ErrArg, {Kind: api.ArgImm, N: math.MinInt}: api.ErrArg,
		{Kind: api.ArgRel}: api.ErrArg, {Kind: api.ArgRel, N: math.MaxInt32}: api.ErrArg, {Kind: api.ArgRel, N: 1 << 31}: api.ErrRange, {Kind: api.ArgRel, N: -1<<31 - 1}: api.ErrRange,
		place(api.Mem{Disp: 1 << 31}): api.ErrRange, place(api.Mem{Base: rbx, Disp: -1<<31 - 1}): api.ErrRange, place(api.Mem{Disp: math.MinInt, Size: 3}): api.ErrRange,
		place(api.Mem{Size: 3}): api.ErrArg, place(api.Mem{Base: rbx, Size: -1}): api.ErrArg, place(api.Mem{Base: rbx, Size: 64}): api.ErrArg,
		place(api.Mem{Index: rsp, Scale: 2}): api.ErrArg, place(api.Mem{Base: rsp, Index: rsp, Scale: 1}): api.ErrArg, place(api.Mem{Base: rip, Index: rax, Scale: 1}): api.ErrArg,
		place(api.Mem{Index: rcx, Scale: 3}): api.ErrArg, place(api.Mem{Index: rcx}): api.ErrArg, place(api.Mem{Base: rcx, Scale: 1}): api.ErrArg, place(api.Mem{Index: rip, Scale: 1}): api.ErrArg,
		place(api.Mem{Base: api.Reg{Class: api.R32}}): api.ErrArg, place(api.Mem{Base: api.Reg{Class: api.RIP, N: 1}}): api.ErrArg, place(api.Mem{Base: r64(16)}): api.ErrArg, place(api.Mem{Base: api.Reg{N: 3}}): api.ErrArg,
	}
}

// P9.1: operands of which there is no way; a middle field that there is not counts ahead of them.
func TestWrongOperands(t *testing.T) {
	for a, want := range wrong() {
		for middle := range 8 {
			if l, err := All(middle, a); len(l) != 0 || err != want {
				t.Errorf("All(%d, %+v) = %v, %v, not %v", middle, a, l, err, want)
			}
		}
	}
	for _, middle := range []int{-1, -8, 8, 9, 16, 64, 255, 256, 1 << 32, math.MinInt, math.MaxInt} {
		for _, a := range []api.Arg{{}, {Kind: api.ArgReg, R: rax}, place(api.Mem{Base: rax}), place(api.Mem{Size: 3}), {Kind: api.ArgImm}} {
			if l, err := All(middle, a); len(l) != 0 || err != api.ErrRange {
				t.Errorf("All(%d, %+v) = %v, %v", middle, a, l, err)
			}
		}
	}
}

// Rule 4 of the document: answers are new memory, spare capacity too, and no two slices share any.
func TestNewMemory(t *testing.T) {
	for _, a := range []api.Arg{{Kind: api.ArgReg, R: rcx}, place(api.Mem{Base: rax}), place(api.Mem{Base: rsp, Disp: 5}), place(api.Mem{Base: rip}), place(api.Mem{Base: rbx, Index: rcx, Scale: 2})} {
		first, _ := All(2, a)
		second, _ := All(2, a)
		want := slices.Clone(second)
		for n := range want {
			want[n].Bytes = slices.Clone(want[n].Bytes)
		}
		for n := range first {
			b := first[n].Bytes
			for k := range b[:cap(b)] {
				b[:cap(b)][k] = byte(100 + n)
			}
		}
		for n, l := range first {
			if slices.ContainsFunc(l.Bytes[:cap(l.Bytes)], func(c byte) bool { return c != byte(100+n) }) {
				t.Errorf("ways of %+v share memory", a)
			}
		}
		clear(first[:cap(first)])
		if !same(second, want) {
			t.Errorf("answers about %+v share memory", a)
		}
	}
}
