package mem

import (
	"math"
	"testing"

	"linotype/api"
)

// r64 tells a register of R64.
func r64(n int) api.Reg { return api.Reg{Class: api.R64, N: n} }

// The registers that places are made of in what follows.
var (
	rax = r64(0)
	rcx = r64(1)
	rbx = r64(3)
	rsp = r64(4)
	rbp = r64(5)
	r12 = r64(12)
	r13 = r64(13)
	rip = api.Reg{Class: api.RIP}
	no  = api.Reg{}
)

// known tells all valid places without a displacement and a size, and the canonical form of each, as the document has them.
func known() map[api.Mem]api.Mem {
	m := map[api.Mem]api.Mem{{}: {}, {Base: rip}: {Base: rip}}
	for b := range 16 {
		m[api.Mem{Base: r64(b)}] = api.Mem{Base: r64(b)}
		m[api.Mem{Index: r64(b), Scale: 1}] = api.Mem{Base: r64(b)}
		for x := range 16 {
			switch {
			case x != 4:
				for _, scale := range []int{1, 2, 4, 8} {
					p := api.Mem{Base: r64(b), Index: r64(x), Scale: scale}
					m[p] = p
				}
			case b != 4:
				m[api.Mem{Base: r64(b), Index: rsp, Scale: 1}] = api.Mem{Base: rsp, Index: r64(b), Scale: 1}
			}
		}
		if b != 4 {
			for _, scale := range []int{2, 4, 8} {
				p := api.Mem{Index: r64(b), Scale: scale}
				m[p] = p
			}
		}
	}
	return m
}

// sizes tells the sizes that a place may have.
func sizes() []int { return []int{0, 1, 2, 4, 8, 16, 32} }

// edges tells the displacements that a place may have, and that the document names or that lie about some bits' bounds.
func edges() []int {
	return []int{0, 1, -1, 5, 127, 128, -128, -129, 255, 256, 32767, 32768, -32768, -32769, math.MaxInt32 - 1, math.MaxInt32, math.MinInt32, math.MinInt32 + 1}
}

// beyond tells displacements that a place may not have.
func beyond() []int {
	l := []int{math.MinInt, math.MinInt + 1, math.MaxInt - 1, math.MaxInt}
	for _, n := range []int{1, 2, 5, 1 << 31, 1<<31 + 1, 1 << 32, 1<<32 + 5, 1 << 40, 1 << 62} {
		l = append(l, math.MaxInt32+n, math.MinInt32-n)
	}
	return l
}

// registers tells all registers of all classes, and a lot of what is none.
func registers() []api.Reg {
	var l []api.Reg
	for class := -2; class <= 11; class++ {
		for n := -2; n <= 18; n++ {
			l = append(l, api.Reg{Class: class, N: n})
		}
	}
	for _, n := range []int{math.MinInt, math.MaxInt, 1 << 8, 1<<8 + 3, 1 << 32, 1<<32 + 5, -1 << 32} {
		l = append(l, api.Reg{Class: api.R64, N: n}, api.Reg{Class: api.RIP, N: n}, api.Reg{N: n}, api.Reg{Class: n}, api.Reg{Class: n, N: 3})
	}
	return l
}

// checked compares what Check and Canon answer with a place's canonical form, or with the error that it has.
func checked(t *testing.T, m, canon api.Mem, err api.Errno) {
	t.Helper()
	if err != api.OK {
		canon = api.Mem{}
	}
	if got := Check(m); got != err {
		t.Errorf("Check(%+v) = %v, not %v", m, got, err)
	}
	if got, bad := Canon(m); got != canon || bad != err {
		t.Errorf("Canon(%+v) = %+v, %v, not %+v, %v", m, got, bad, canon, err)
	}
	if Same(m, m) != (err == api.OK) {
		t.Errorf("Same(%+v, itself) = %v", m, Same(m, m))
	}
}

// P5.1: all registers, and what is none, as base and index, with scales that there are and that there are not.
func TestRegistersAndScales(t *testing.T) {
	places, all := known(), registers()
	if len(places) != 1054 {
		t.Fatalf("%d places", len(places))
	}
	found := 0
	for _, base := range all {
		for _, index := range all {
			for _, scale := range []int{0, 1, 2, 3, 4, 5, 6, 7, 8, 9, 16, -1, -2, -8} {
				m := api.Mem{Base: base, Index: index, Scale: scale}
				canon, is := places[m]
				if !is {
					checked(t, m, api.Mem{}, api.ErrArg)
					continue
				}
				checked(t, m, canon, api.OK)
				found++
			}
		}
	}
	if found != len(places) {
		t.Errorf("%d of %d places", found, len(places))
	}
}

// P5.1: scales that are far from those that there are, with and without an index.
func TestScales(t *testing.T) {
	for _, scale := range []int{10, 12, 15, 17, 24, 32, 64, 128, 256, 257, 1 << 16, 1<<16 + 1, 1 << 32, 1<<32 + 1, 1<<32 + 2, 1<<32 + 8, 1<<62 + 4, -4, -256, math.MinInt, math.MinInt + 1, math.MaxInt} {
		checked(t, api.Mem{Base: rbx, Index: rcx, Scale: scale}, api.Mem{}, api.ErrArg)
		checked(t, api.Mem{Index: rcx, Scale: scale}, api.Mem{}, api.ErrArg)
		checked(t, api.Mem{Base: rbx, Scale: scale}, api.Mem{}, api.ErrArg)
		checked(t, api.Mem{Base: rip, Scale: scale}, api.Mem{}, api.ErrArg)
		checked(t, api.Mem{Scale: scale}, api.Mem{}, api.ErrArg)
	}
}

// P5.1: all sizes around those that there are, with each kind of place; the canonical form keeps size and displacement.
func TestSizes(t *testing.T) {
	is := map[int]bool{}
	for _, size := range sizes() {
		is[size] = true
	}
	l := []int{math.MinInt, math.MaxInt, 1 << 32, 1<<32 + 4, 1 << 62, 512, 1024}
	for size := -40; size <= 300; size++ {
		l = append(l, size)
	}
	for _, m := range []api.Mem{{}, {Base: rip}, {Base: rsp}, {Index: rcx, Scale: 1}, {Base: r13, Index: rsp, Scale: 1}, {Base: rbx, Index: r12, Scale: 8}} {
		canon := known()[m]
		for _, size := range l {
			m.Size, m.Disp, canon.Size, canon.Disp = size, size%7, size, size%7
			if is[size] {
				checked(t, m, canon, api.OK)
			} else {
				checked(t, m, api.Mem{}, api.ErrArg)
			}
		}
	}
}

// P5.1: all valid places with the displacements about the bounds, and beyond them.
func TestDisplacements(t *testing.T) {
	for m, canon := range known() {
		for i, disp := range edges() {
			m.Disp, m.Size = disp, sizes()[i%7]
			canon.Disp, canon.Size = m.Disp, m.Size
			checked(t, m, canon, api.OK)
		}
		for _, disp := range beyond() {
			m.Disp = disp
			checked(t, m, api.Mem{}, api.ErrRange)
		}
	}
}

// P5.1: a displacement that is out of its bounds goes ahead of all else that is wrong.
func TestRangeGoesFirst(t *testing.T) {
	for _, m := range []api.Mem{
		{Size: 3}, {Size: -1}, {Scale: 1}, {Scale: 3}, {Base: rbx, Scale: 1}, {Index: rcx}, {Index: rcx, Scale: 3}, {Index: rsp, Scale: 2},
		{Base: rsp, Index: rsp, Scale: 1}, {Base: rip, Index: rcx, Scale: 1}, {Index: rip, Scale: 1}, {Base: api.Reg{Class: api.R32, N: 3}},
		{Base: api.Reg{N: 3}}, {Base: rbx, Index: api.Reg{N: 1}, Scale: 1}, {Base: rbx, Index: api.Reg{Class: api.X, N: 1}, Scale: 1}, {Base: r64(16)},
	} {
		checked(t, m, api.Mem{}, api.ErrArg)
		for _, disp := range edges() {
			m.Disp = disp
			checked(t, m, api.Mem{}, api.ErrArg)
		}
		for _, disp := range beyond() {
			m.Disp = disp
			checked(t, m, api.Mem{}, api.ErrRange)
		}
	}
}

// P5.1: any two valid places are the same if they have the same canonical form, and only then.
func TestSame(t *testing.T) {
	places := known()
	for a, canon := range places {
		for b, other := range places {
			if Same(a, b) != (canon == other) {
				t.Errorf("Same(%+v, %+v) = %v", a, b, Same(a, b))
			}
		}
	}
}

// P5.1: places that differ in displacement or size are not the same; what is not valid is the same as nothing.
func TestNotSame(t *testing.T) {
	for m, canon := range known() {
		for _, other := range []api.Mem{m, canon} {
			other.Disp = 1
			if Same(m, other) || Same(other, m) {
				t.Errorf("%+v with another displacement", m)
			}
			other.Disp, other.Size = 0, 4
			if Same(m, other) || Same(other, m) {
				t.Errorf("%+v with another size", m)
			}
		}
		for _, bad := range []api.Mem{{Size: 3}, {Disp: math.MaxInt32 + 1}, {Base: rip, Index: rax, Scale: 1}, {Base: m.Base, Index: m.Index, Scale: m.Scale, Size: 64}, {Base: m.Base, Index: m.Index, Scale: m.Scale, Disp: 1 << 32}} {
			if Same(m, bad) || Same(bad, m) || Same(bad, bad) {
				t.Errorf("%+v and %+v", m, bad)
			}
		}
	}
}

// The document's examples of Canon and Check.
func TestExamples(t *testing.T) {
	checked(t, api.Mem{Index: rbx, Scale: 1, Disp: 5}, api.Mem{Base: rbx, Disp: 5}, api.OK)
	checked(t, api.Mem{Base: rbx, Index: rsp, Scale: 1}, api.Mem{Base: rsp, Index: rbx, Scale: 1}, api.OK)
	checked(t, api.Mem{Index: rbx, Scale: 2}, api.Mem{Index: rbx, Scale: 2}, api.OK)
	checked(t, api.Mem{Index: rsp, Scale: 1}, api.Mem{Base: rsp}, api.OK)
	checked(t, api.Mem{Index: rsp, Scale: 2}, api.Mem{}, api.ErrArg)
	checked(t, api.Mem{Base: rsp, Index: rsp, Scale: 1}, api.Mem{}, api.ErrArg)
	checked(t, api.Mem{Base: rip, Index: rax, Scale: 1}, api.Mem{}, api.ErrArg)
	checked(t, api.Mem{Base: rbp, Index: rcx, Scale: 3}, api.Mem{}, api.ErrArg)
	checked(t, api.Mem{Disp: 1 << 31}, api.Mem{}, api.ErrRange)
	checked(t, api.Mem{Base: no, Index: no, Disp: math.MinInt32, Size: 32}, api.Mem{Disp: math.MinInt32, Size: 32}, api.OK)
}
