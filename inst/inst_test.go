package inst

import (
	"math"
	"slices"
	"testing"

	"linotype/api"
)

// P8.1, P8.2, P8.3: instructions of up to one operand, of all mnemonics and of what is none.
func TestOne(t *testing.T) {
	for op := -3; op <= api.Ops+3; op++ {
		asked(t, op, nil)
		for _, s := range samples() {
			asked(t, op, []sample{s})
		}
	}
	for _, op := range []int{math.MinInt, math.MaxInt, 1<<32 + 1, 1<<16 + 1, 1<<8 + 256, -1 << 32} {
		asked(t, op, nil)
		asked(t, op, []sample{register(api.R32, 0), numbered(api.ArgImm, 5)})
	}
}

// P8.1, P8.2, P8.3: instructions of two operands, of all mnemonics and of what is none.
func TestTwo(t *testing.T) {
	for op := -1; op <= api.Ops+1; op++ {
		for _, a := range samples() {
			for _, b := range few() {
				asked(t, op, []sample{a, b})
			}
		}
	}
	for _, op := range ops() {
		for _, a := range samples() {
			for _, b := range samples() {
				asked(t, op, []sample{a, b})
			}
		}
	}
}

// P8.1, P8.2, P8.3: instructions of three and four operands, and of five, which are too many.
func TestMore(t *testing.T) {
	for _, op := range ops() {
		for _, a := range few() {
			for _, b := range few() {
				for _, c := range few() {
					asked(t, op, []sample{a, b, c})
					for _, d := range few() {
						asked(t, op, []sample{a, b, c, d})
					}
					asked(t, op, []sample{a, b, c, a, b})
				}
			}
		}
	}
	asked(t, api.OpAdd, make([]sample, 1000))
	asked(t, 0, make([]sample, 1000))
}

// P8.1: the bounds of immediates, as numbers: by the first operand and by the mnemonic; with 64 bits there are none.
func TestImmediates(t *testing.T) {
	al, ax, eax, rax := register(api.R8, 0).a, register(api.R16, 0).a, register(api.R32, 0).a, register(api.R64, 0).a
	for _, w := range []struct {
		op, low, high int
		before        []api.Arg
	}{
		{api.OpAdd, -128, 255, []api.Arg{al}}, {api.OpAdd, -32768, 65535, []api.Arg{ax}}, {api.OpCmp, -2147483648, 4294967295, []api.Arg{eax}},
		{api.OpXor, -128, 255, []api.Arg{place(1).a}}, {api.OpImul, -32768, 65535, []api.Arg{place(2).a}}, {api.OpTest, -2147483648, 4294967295, []api.Arg{place(4).a}},
		{api.OpImul, -32768, 65535, []api.Arg{ax, place(4).a}}, {api.OpRet, -32768, 65535, nil}, {api.OpShl, -128, 255, []api.Arg{rax}}, {api.OpPshufd, -128, 255, []api.Arg{register(api.X, 1).a, register(api.X, 2).a}},
	} {
		for _, n := range []int{w.low, w.high, 0, -1} {
			if err := Check(api.Inst{Op: w.op, Args: append(slices.Clip(w.before), api.Arg{Kind: api.ArgImm, N: n})}); err != api.OK {
				t.Errorf("%d of %d: %v", n, w.op, err)
			}
		}
		for _, n := range []int{w.low - 1, w.high + 1, math.MinInt, math.MaxInt} {
			if err := Check(api.Inst{Op: w.op, Args: append(slices.Clip(w.before), api.Arg{Kind: api.ArgImm, N: n})}); err != api.ErrRange {
				t.Errorf("%d of %d: %v", n, w.op, err)
			}
		}
	}
	for _, n := range []int{math.MinInt, math.MaxInt} {
		for _, i := range []api.Inst{{Op: api.OpPush, Args: []api.Arg{{Kind: api.ArgImm, N: n}}}, {Op: api.OpMov, Args: []api.Arg{rax, {Kind: api.ArgImm, N: n}}}} {
			if c, err := Canon(i); err != api.OK || c.Args[len(c.Args)-1].N != n {
				t.Errorf("%+v: %+v, %v", i, c, err)
			}
		}
	}
}

// P8.1: which error is told where several apply.
func TestOrder(t *testing.T) {
	five, far := numbered(api.ArgImm, 5), sample{api.Arg{Kind: api.ArgRel, N: 1 << 31}, api.Arg{}, api.ErrRange, 0}
	none, al, x := sample{api.Arg{}, api.Arg{}, api.ErrArg, 0}, register(api.R8, 0), register(api.X, 0)
	for n, w := range []struct {
		op  int
		l   []sample
		err api.Errno
	}{
		{0, []sample{none, none, none, none, none}, api.ErrMissing},
		{api.OpAdd, []sample{none, none, none, none, none}, api.ErrLong},
		{api.OpAdd, []sample{five, five, far}, api.ErrRange},
		{api.OpAdd, []sample{five, five, far, none}, api.ErrRange},
		{api.OpAdd, []sample{five, five, none, far}, api.ErrArg},
		{api.OpAdd, []sample{al, numbered(api.ArgImm, 256), numbered(api.ArgImm, 256)}, api.ErrArg},
		{api.OpAdd, []sample{al, numbered(api.ArgImm, 256), place(1), place(1)}, api.ErrArg},
		{api.OpAdd, []sample{al, numbered(api.ArgImm, 256)}, api.ErrRange},
		{api.OpAdd, []sample{place(0), numbered(api.ArgImm, 256)}, api.ErrArg},
		{api.OpAdd, []sample{x, numbered(api.ArgImm, 256)}, api.ErrArg},
		{api.OpAdd, []sample{five}, api.ErrArg},
		{api.OpAdd, []sample{numbered(api.ArgRel, 0), five}, api.ErrArg},
		{api.OpAdd, []sample{x, x}, api.OK},
		{api.OpJmp, []sample{numbered(api.ArgRel, 0), numbered(api.ArgRel, 1)}, api.ErrArg},
		{api.OpJmp, []sample{al, al, al, al}, api.OK},
		{api.OpShl, []sample{place(0), numbered(api.ArgImm, 256)}, api.ErrRange},
		{api.OpShl, []sample{numbered(api.ArgImm, 255), numbered(api.ArgRel, 1), place(4), al}, api.OK},
	} {
		if err := Check(written(w.op, w.l)); err != w.err {
			t.Errorf("%d: %v, not %v", n, err, w.err)
		}
		asked(t, w.op, w.l)
	}
}

// P8.2: any two registers of any two classes as the operands of xchg.
func TestExchange(t *testing.T) {
	for class := api.R8; class <= api.Y; class++ {
		for other := api.R8; other <= api.Y; other++ {
			for n := range 16 {
				for m := range 16 {
					if (class != api.R8H || n >= 4 && n < 8) && (other != api.R8H || m >= 4 && m < 8) {
						asked(t, api.OpXchg, []sample{register(class, n), register(other, m)})
					}
				}
			}
		}
	}
}

// P8.2, P8.3: any two instructions are the same if both are valid and have the same canon, and only then.
func TestSame(t *testing.T) {
	type pair struct {
		i, canon api.Inst
		err      api.Errno
	}
	var l []pair
	add := func(op int, s ...sample) {
		canon, err := told(op, s)
		l = append(l, pair{written(op, s), canon, err})
	}
	for _, op := range []int{api.OpAdd, api.OpXchg, api.OpImul, api.OpRet, 0} {
		add(op)
		for _, a := range few() {
			add(op, a)
			for _, b := range few() {
				add(op, a, b)
			}
			add(op, register(api.R32, 0), register(api.R32, 0), a)
		}
	}
	for _, a := range l {
		for _, b := range l {
			if Same(a.i, b.i) != (a.err == api.OK && b.err == api.OK && equal(a.canon, b.canon)) {
				t.Fatalf("Same(%+v, %+v) = %v", a.i, b.i, Same(a.i, b.i))
			}
		}
	}
}

// spare tells a slice with operands in its spare capacity.
func spare(l ...api.Arg) []api.Arg {
	l = slices.Grow(slices.Clip(l), 4)
	whole := l[:cap(l)]
	for n := len(l); n < cap(l); n++ {
		whole[n] = numbered(api.ArgImm, 77).a
	}
	return l
}

// Rule 4 of the document: answers are new memory; arguments and their spare capacity stay as they are, and do not count.
func TestNewMemory(t *testing.T) {
	ecx, eax, mem, five := register(api.R32, 1).a, register(api.R32, 0).a, place(4).a, numbered(api.ArgImm, 5).a
	for _, i := range []api.Inst{
		{Op: api.OpXchg, Args: spare(ecx, eax)}, {Op: api.OpXchg, Args: spare(eax, ecx)}, {Op: api.OpImul, Args: spare(ecx, five)}, {Op: api.OpTest, Args: spare(eax, mem)}, {Op: api.OpAdd, Args: spare(mem, five)}, {Op: api.OpNop, Args: spare()},
	} {
		before := slices.Clone(i.Args[:cap(i.Args)])
		canon, err := Canon(i)
		l := Spellings(i)
		if err != api.OK || Check(i) != api.OK || !Same(i, canon) {
			t.Errorf("%+v: %v", i, err)
		}
		answers := [][]api.Arg{canon.Args}
		for _, s := range l {
			answers = append(answers, s.Args)
		}
		for n, a := range answers {
			for k := range a[:cap(a)] {
				a[:cap(a)][k] = api.Arg{Kind: 1000 + n}
			}
		}
		for n, a := range answers {
			if slices.ContainsFunc(a[:cap(a)], func(x api.Arg) bool { return x.Kind != 1000+n }) {
				t.Errorf("an answer for %+v shares memory with another one", i)
			}
		}
		if !slices.Equal(before, i.Args[:cap(i.Args)]) {
			t.Errorf("%+v is changed", i)
		}
	}
}
