package operand

import (
	"math"
	"testing"

	"linotype/api"
)

// r64 tells a register of R64.
func r64(n int) api.Reg { return api.Reg{Class: api.R64, N: n} }

// The registers that operands are made of in what follows.
var (
	eax = api.Reg{Class: api.R32}
	rax = r64(0)
	rcx = r64(1)
	rbx = r64(3)
	rsp = r64(4)
	rip = api.Reg{Class: api.RIP}
)

// known tells all registers that may be operands, and the size of each, as the document has them.
func known() map[api.Reg]int {
	m := map[api.Reg]int{}
	for n := range 16 {
		for class, size := range map[int]int{api.R8: 1, api.R16: 2, api.R32: 4, api.R64: 8, api.X: 16, api.Y: 32} {
			m[api.Reg{Class: class, N: n}] = size
		}
	}
	for n := 4; n < 8; n++ {
		m[api.Reg{Class: api.R8H, N: n}] = 1
	}
	return m
}

// registers tells all registers of all classes, and a lot of what is none.
func registers() []api.Reg {
	var l []api.Reg
	for class := -2; class <= 11; class++ {
		for n := -2; n <= 18; n++ {
			l = append(l, api.Reg{Class: class, N: n})
		}
	}
	for _, n := range []int{math.MinInt, math.MaxInt, 1 << 8, 1<<8 + 3, 1 << 32, 1<<32 + 5, -1 << 32} {
		for class := api.R8; class <= api.RIP; class++ {
			l = append(l, api.Reg{Class: class, N: n}, api.Reg{Class: n, N: class})
		}
	}
	return l
}

// A written place is one as it may be written, and its canonical form.
type written struct{ m, canon api.Mem }

// places tells valid places of all kinds, each with each size, and with displacements up to the bounds.
func places() []written {
	var l []written
	for _, w := range []written{
		{api.Mem{}, api.Mem{}},
		{api.Mem{Base: rip}, api.Mem{Base: rip}},
		{api.Mem{Base: rbx}, api.Mem{Base: rbx}},
		{api.Mem{Base: rsp}, api.Mem{Base: rsp}},
		{api.Mem{Index: rbx, Scale: 1}, api.Mem{Base: rbx}},
		{api.Mem{Index: rsp, Scale: 1}, api.Mem{Base: rsp}},
		{api.Mem{Index: rbx, Scale: 2}, api.Mem{Index: rbx, Scale: 2}},
		{api.Mem{Base: rbx, Index: rsp, Scale: 1}, api.Mem{Base: rsp, Index: rbx, Scale: 1}},
		{api.Mem{Base: rsp, Index: rbx, Scale: 1}, api.Mem{Base: rsp, Index: rbx, Scale: 1}},
		{api.Mem{Base: rbx, Index: rcx, Scale: 1}, api.Mem{Base: rbx, Index: rcx, Scale: 1}},
		{api.Mem{Base: rcx, Index: rbx, Scale: 1}, api.Mem{Base: rcx, Index: rbx, Scale: 1}},
		{api.Mem{Base: r64(13), Index: r64(12), Scale: 8}, api.Mem{Base: r64(13), Index: r64(12), Scale: 8}},
	} {
		for _, size := range []int{0, 1, 2, 4, 8, 16, 32} {
			for _, disp := range []int{0, 5, -129, math.MaxInt32, math.MinInt32} {
				w.m.Size, w.m.Disp, w.canon.Size, w.canon.Disp = size, disp, size, disp
				l = append(l, w)
			}
		}
	}
	return l
}

// spoilt tells places that are not valid, and why.
func spoilt() map[api.Mem]api.Errno {
	m := map[api.Mem]api.Errno{
		{Disp: 1 << 31}: api.ErrRange, {Disp: -1<<31 - 1}: api.ErrRange, {Base: rbx, Disp: math.MaxInt, Size: 4}: api.ErrRange, {Disp: math.MinInt, Size: 3}: api.ErrRange,
		{Base: rip, Index: rax, Scale: 1, Disp: 1 << 32}: api.ErrRange,
		{Scale: 1}: api.ErrArg, {Index: rcx}: api.ErrArg, {Index: rcx, Scale: 3}: api.ErrArg, {Index: rsp, Scale: 2, Size: 8}: api.ErrArg, {Base: rsp, Index: rsp, Scale: 1, Size: 8}: api.ErrArg,
		{Base: rip, Index: rax, Scale: 1, Size: 8}: api.ErrArg, {Index: rip, Scale: 1}: api.ErrArg, {Base: eax, Size: 4}: api.ErrArg, {Base: api.Reg{Class: api.RIP, N: 1}, Size: 1}: api.ErrArg,
	}
	for _, size := range []int{-1, 3, 5, 6, 7, 9, 10, 15, 24, 33, 64, 1<<32 + 4, math.MinInt, math.MaxInt} {
		m[api.Mem{Base: rbx, Size: size}] = api.ErrArg
	}
	return m
}

// numbers tells numbers up to all bounds of an int, many about those of some bits.
func numbers() []int {
	l := []int{math.MinInt, math.MinInt + 1, math.MaxInt - 1, math.MaxInt}
	for bits := range 63 {
		for n := -2; n <= 2; n++ {
			l = append(l, 1<<bits+n, -1<<bits+n)
		}
	}
	return l
}

// laden tells an operand, and others that differ from it in what does not count alone.
func laden(a api.Arg) []api.Arg {
	l := []api.Arg{a}
	for _, r := range []api.Reg{{}, eax, rbx, rip, {Class: -1, N: 99}} {
		for _, m := range []api.Mem{{}, {Base: rbx, Size: 2}, {Index: rbx, Scale: 1}, {Disp: 1 << 31}, {Scale: 3, Size: -1}} {
			for _, n := range []int{0, 7, -1, 1 << 31, math.MinInt} {
				b := api.Arg{Kind: a.Kind, R: r, M: m, N: n}
				switch a.Kind {
				case api.ArgReg:
					b.R = a.R
				case api.ArgMem:
					b.M = a.M
				case api.ArgImm, api.ArgRel:
					b.N = a.N
				}
				l = append(l, b)
			}
		}
	}
	return l
}

// checked compares what is answered about an operand, whatever else it has, with its canonical form and its size, or with the error that it has.
func checked(t *testing.T, a, canon api.Arg, size int, err api.Errno) {
	t.Helper()
	for _, b := range laden(a) {
		if got := Check(b); got != err {
			t.Errorf("Check(%+v) = %v, not %v", b, got, err)
		}
		if got, bad := Canon(b); got != canon || bad != err {
			t.Errorf("Canon(%+v) = %+v, %v, not %+v, %v", b, got, bad, canon, err)
		}
		if got := Size(b); got != size {
			t.Errorf("Size(%+v) = %d, not %d", b, got, size)
		}
		if Same(b, b) != (err == api.OK) || Same(a, b) != (err == api.OK) || Same(b, a) != (err == api.OK) {
			t.Errorf("Same(%+v, %+v) = %v", a, b, Same(a, b))
		}
	}
}

// P6.1: all registers, and what is none, rip too.
func TestRegisters(t *testing.T) {
	sizes, found := known(), 0
	for _, r := range registers() {
		a := api.Arg{Kind: api.ArgReg, R: r}
		if size, is := sizes[r]; is {
			checked(t, a, a, size, api.OK)
			found++
		} else {
			checked(t, a, api.Arg{}, 0, api.ErrArg)
		}
	}
	if found != len(sizes) || found != 100 {
		t.Errorf("%d of %d registers", found, len(sizes))
	}
}

// P6.1: places that are valid, with all sizes.
func TestPlaces(t *testing.T) {
	for _, w := range places() {
		checked(t, api.Arg{Kind: api.ArgMem, M: w.m}, api.Arg{Kind: api.ArgMem, M: w.canon}, w.m.Size, api.OK)
	}
}

// P6.1: places that are not valid have the error that they have in layer 5, and no size.
func TestPlacesWrong(t *testing.T) {
	for m, err := range spoilt() {
		checked(t, api.Arg{Kind: api.ArgMem, M: m}, api.Arg{}, 0, err)
	}
}

// P6.1: any number may be an operand, a distance if it has 32 bits.
func TestNumbers(t *testing.T) {
	for _, n := range numbers() {
		a := api.Arg{Kind: api.ArgImm, N: n}
		checked(t, a, a, 0, api.OK)
		a.Kind = api.ArgRel
		if n >= -1<<31 && n < 1<<31 {
			checked(t, a, a, 0, api.OK)
		} else {
			checked(t, a, api.Arg{}, 0, api.ErrRange)
		}
	}
}

// P6.1: kinds that there are not, whatever such an operand has.
func TestKinds(t *testing.T) {
	l := []int{math.MinInt, math.MaxInt, 1 << 8, 1<<8 + 1, 1<<16 + 2, 1<<32 + 1, 1<<32 + 2, 1<<32 + 3, 1<<32 + 4}
	for kind := -20; kind <= 300; kind++ {
		if kind < api.ArgReg || kind > api.ArgRel {
			l = append(l, kind)
		}
	}
	for _, kind := range l {
		for _, a := range []api.Arg{{}, {R: eax}, {M: api.Mem{Base: rbx, Size: 4}}, {N: 5}, {R: rip}, {M: api.Mem{Disp: 1 << 31}}, {N: 1 << 31}} {
			a.Kind = kind
			checked(t, a, api.Arg{}, 0, api.ErrArg)
		}
	}
}

// several tells operands of all kinds, valid ones, each with its canonical form.
func several() map[api.Arg]api.Arg {
	l := map[api.Arg]api.Arg{}
	for r := range known() {
		a := api.Arg{Kind: api.ArgReg, R: r}
		l[a] = a
	}
	for i, w := range places() {
		l[api.Arg{Kind: api.ArgMem, M: w.m, N: i % 3}] = api.Arg{Kind: api.ArgMem, M: w.canon}
	}
	for _, n := range []int{0, 1, -1, 4, 5, 255, -256, math.MinInt32, math.MaxInt32} {
		l[api.Arg{Kind: api.ArgImm, N: n}] = api.Arg{Kind: api.ArgImm, N: n}
		l[api.Arg{Kind: api.ArgRel, N: n}] = api.Arg{Kind: api.ArgRel, N: n}
		l[api.Arg{Kind: api.ArgImm, N: n, R: eax}] = api.Arg{Kind: api.ArgImm, N: n}
		l[api.Arg{Kind: api.ArgRel, N: n, M: api.Mem{Size: 3}}] = api.Arg{Kind: api.ArgRel, N: n}
	}
	return l
}

// P6.1: any two valid operands are the same if they have the same canonical form, and only then.
func TestSame(t *testing.T) {
	l := several()
	for a, canon := range l {
		for b, other := range l {
			if Same(a, b) != (canon == other) {
				t.Errorf("Same(%+v, %+v) = %v", a, b, Same(a, b))
			}
		}
	}
}

// P6.1: what is not valid is the same as nothing.
func TestNotSame(t *testing.T) {
	bad := []api.Arg{{}, {Kind: 5}, {Kind: api.ArgReg}, {Kind: api.ArgReg, R: rip}, {Kind: api.ArgMem, M: api.Mem{Size: 3}}, {Kind: api.ArgMem, M: api.Mem{Disp: 1 << 31}}, {Kind: api.ArgRel, N: 1 << 31}}
	for a := range several() {
		for _, b := range bad {
			if Same(a, b) || Same(b, a) {
				t.Errorf("%+v and %+v", a, b)
			}
		}
	}
	for _, a := range bad {
		for _, b := range bad {
			if Same(a, b) {
				t.Errorf("%+v and %+v", a, b)
			}
		}
	}
}

// P6.3: a canonical form is valid, is its own, and has the operand's size.
func TestCanonIsItsOwn(t *testing.T) {
	for a := range several() {
		canon, _ := Canon(a)
		again, err := Canon(canon)
		if Check(canon) != api.OK || again != canon || err != api.OK || Size(canon) != Size(a) || !Same(a, canon) || !Same(canon, a) {
			t.Errorf("%+v: %+v, %+v", a, canon, again)
		}
	}
}

// The document's examples of Check, Canon and Size.
func TestExamples(t *testing.T) {
	if err := Check(api.Arg{Kind: api.ArgReg, R: eax}); err != api.OK {
		t.Error(err)
	}
	if err := Check(api.Arg{Kind: api.ArgReg, R: rip}); err != api.ErrArg {
		t.Error(err)
	}
	if err := Check(api.Arg{Kind: 5}); err != api.ErrArg {
		t.Error(err)
	}
	if err := Check(api.Arg{Kind: api.ArgRel, N: 1 << 31}); err != api.ErrRange {
		t.Error(err)
	}
	if a, err := Canon(api.Arg{Kind: api.ArgReg, R: eax, N: 7}); a != (api.Arg{Kind: api.ArgReg, R: eax}) || err != api.OK {
		t.Error(a, err)
	}
	if n := Size(api.Arg{Kind: api.ArgMem, M: api.Mem{Base: rax, Size: 4}}); n != 4 {
		t.Error(n)
	}
	if n := Size(api.Arg{Kind: api.ArgImm, N: 5}); n != 0 {
		t.Error(n)
	}
}
