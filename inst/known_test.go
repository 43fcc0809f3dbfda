package inst

import (
	"math"
	"slices"
	"testing"

	"linotype/api"
)

// A sample is an operand as it may be written, with what the document says of it: its canonical form, what is wrong with it, how many bits it has.
type sample struct {
	a, canon api.Arg
	err      api.Errno
	bits     int
}

// register tells a register as a sample; what does not count in it is not zero.
func register(class, n int) sample {
	canon := api.Arg{Kind: api.ArgReg, R: api.Reg{Class: class, N: n}}
	a := canon
	a.N, a.M.Size = 7, 3
	return sample{a, canon, api.OK, map[int]int{api.R8: 8, api.R8H: 8, api.R16: 16, api.R32: 32, api.R64: 64, api.X: 128, api.Y: 256}[class]}
}

// place tells [rbx * 1 + 5] of a size as a sample.
func place(size int) sample {
	a := api.Arg{Kind: api.ArgMem, M: api.Mem{Index: api.Reg{Class: api.R64, N: 3}, Scale: 1, Disp: 5, Size: size}, N: 1 << 40}
	canon := api.Arg{Kind: api.ArgMem, M: api.Mem{Base: api.Reg{Class: api.R64, N: 3}, Disp: 5, Size: size}}
	return sample{a, canon, api.OK, 8 * size}
}

// numbered tells an immediate, or a distance, as a sample.
func numbered(kind, n int) sample {
	canon := api.Arg{Kind: kind, N: n}
	a := canon
	a.R, a.M.Disp = api.Reg{Class: 99}, 1<<40
	return sample{a, canon, api.OK, 0}
}

// registers tells registers of all classes.
func registers() []sample {
	return []sample{
		register(api.R8, 0), register(api.R8, 1), register(api.R8H, 5), register(api.R16, 2), register(api.R16, 15), register(api.R32, 0), register(api.R32, 1), register(api.R32, 9),
		register(api.R64, 3), register(api.R64, 12), register(api.X, 1), register(api.X, 8), register(api.Y, 2), register(api.Y, 0),
	}
}

// bad tells operands that are not valid.
func bad() []sample {
	return []sample{
		{api.Arg{}, api.Arg{}, api.ErrArg, 0},
		{api.Arg{Kind: 5, N: 5}, api.Arg{}, api.ErrArg, 0},
		{api.Arg{Kind: -1}, api.Arg{}, api.ErrArg, 0},
		{api.Arg{Kind: math.MaxInt}, api.Arg{}, api.ErrArg, 0},
		{api.Arg{Kind: api.ArgReg}, api.Arg{}, api.ErrArg, 0},
		{api.Arg{Kind: api.ArgReg, R: api.Reg{Class: api.RIP}}, api.Arg{}, api.ErrArg, 0},
		{api.Arg{Kind: api.ArgReg, R: api.Reg{Class: api.R32, N: 16}}, api.Arg{}, api.ErrArg, 0},
		{api.Arg{Kind: api.ArgMem, M: api.Mem{Size: 3}}, api.Arg{}, api.ErrArg, 0},
		{api.Arg{Kind: api.ArgMem, M: api.Mem{Size: 4, Disp: 1 << 31}}, api.Arg{}, api.ErrRange, 0},
		{api.Arg{Kind: api.ArgRel, N: 1 << 31}, api.Arg{}, api.ErrRange, 0},
		{api.Arg{Kind: api.ArgRel, N: -1<<31 - 1}, api.Arg{}, api.ErrRange, 0},
	}
}

// samples tells operands of all kinds, and what is none.
func samples() []sample {
	l := append(registers(), bad()...)
	for _, size := range []int{0, 1, 2, 4, 8, 16, 32} {
		l = append(l, place(size))
	}
	for _, n := range []int{0, 5, -1, 255, 256, -129, 65535, -32769, math.MaxUint32, math.MaxInt, math.MinInt} {
		l = append(l, numbered(api.ArgImm, n))
	}
	return append(l, numbered(api.ArgRel, 0), numbered(api.ArgRel, math.MaxInt32), numbered(api.ArgRel, math.MinInt32))
}

// few tells some of the samples: enough for lists of three.
func few() []sample {
	return []sample{
		register(api.R8, 1), register(api.R32, 9), register(api.R32, 0), register(api.X, 1), place(0), place(4), numbered(api.ArgImm, 255), numbered(api.ArgImm, -129), numbered(api.ArgRel, 3),
		{api.Arg{Kind: 5}, api.Arg{}, api.ErrArg, 0}, {api.Arg{Kind: api.ArgRel, N: 1 << 31}, api.Arg{}, api.ErrRange, 0},
	}
}

// ops tells the mnemonics of which the document says something of their own.
func ops() []int {
	return []int{api.OpAdd, api.OpMov, api.OpTest, api.OpXchg, api.OpImul, api.OpPush, api.OpRet, api.OpShl, api.OpVfmadd231pd, 0, -1, api.Ops + 1}
}

// bitsOf tells what the document says of an immediate's bits: of a mnemonic, and of a first operand, if there is one.
func bitsOf(op int, l []sample) (int, bool) {
	switch op {
	case api.OpAdd, api.OpOr, api.OpAdc, api.OpSbb, api.OpAnd, api.OpSub, api.OpXor, api.OpCmp, api.OpMov, api.OpTest, api.OpImul:
		if len(l) == 0 {
			return 0, false
		}
		return l[0].bits, l[0].bits > 0
	case api.OpPush:
		return 64, true
	case api.OpRet:
		return 16, false
	}
	if op < 1 || op > 322 {
		return 0, false
	}
	return 8, false
}

// inBits tells what the document says of a number in a number of bits.
func inBits(n, bits int, signed bool) (int, api.Errno) {
	switch bits {
	case 8, 16, 32:
	case 64:
		return n, api.OK
	default:
		return 0, api.ErrArg
	}
	all, half := 1<<bits, 1<<(bits-1)
	switch {
	case n < -half || n >= all:
		return 0, api.ErrRange
	case signed && n >= half:
		return n - all, api.OK
	case !signed && n < 0:
		return n + all, api.OK
	}
	return n, api.OK
}

// written tells an instruction with these operands as they are written.
func written(op int, l []sample) api.Inst {
	i := api.Inst{Op: op}
	for _, s := range l {
		i.Args = append(i.Args, s.a)
	}
	return i
}

// told tells what the document says of an instruction: its canonical form, or what is wrong with it.
func told(op int, l []sample) (api.Inst, api.Errno) {
	if op < 1 || op > 322 {
		return api.Inst{}, api.ErrMissing
	}
	if len(l) > 4 {
		return api.Inst{}, api.ErrLong
	}
	for _, s := range l {
		if s.err != api.OK {
			return api.Inst{}, s.err
		}
	}
	count := map[int]int{}
	for _, s := range l {
		count[s.a.Kind]++
	}
	if count[api.ArgMem] > 1 || count[api.ArgImm] > 1 || count[api.ArgRel] > 1 {
		return api.Inst{}, api.ErrArg
	}
	var args []api.Arg
	for _, s := range l {
		a := s.canon
		if a.Kind == api.ArgImm {
			bits, signed := bitsOf(op, l)
			n, err := inBits(a.N, bits, signed)
			if err != api.OK {
				return api.Inst{}, err
			}
			a.N = n
		}
		args = append(args, a)
	}
	return api.Inst{Op: op, Args: inOrder(op, args)}, api.OK
}

// inOrder tells operands as the document's three rules have them.
func inOrder(op int, args []api.Arg) []api.Arg {
	if len(args) != 2 {
		return args
	}
	first, second := args[0], args[1]
	turned := []api.Arg{second, first}
	switch {
	case op == api.OpImul && first.Kind == api.ArgReg && second.Kind == api.ArgImm:
		return []api.Arg{first, first, second}
	case (op == api.OpTest || op == api.OpXchg) && first.Kind == api.ArgReg && second.Kind == api.ArgMem:
		return turned
	case op == api.OpXchg && first.Kind == api.ArgReg && second.Kind == api.ArgReg && first.R.Class == second.R.Class && first.R.N > second.R.N:
		return turned
	}
	return args
}

// equal tells whether two instructions have the same number and operands.
func equal(a, b api.Inst) bool {
	return a.Op == b.Op && slices.Equal(a.Args, b.Args)
}

// asked compares what Check, Canon, Bits and Spellings answer with what the document says, and with its theorems.
func asked(t *testing.T, op int, l []sample) {
	t.Helper()
	i := written(op, l)
	want, err := told(op, l)
	if got := Check(i); got != err {
		t.Fatalf("Check(%+v) = %v, not %v", i, got, err)
	}
	bits, signed := bitsOf(op, l)
	if n, s := Bits(i); n != bits || s != signed {
		t.Fatalf("Bits(%+v) = %d, %v, not %d, %v", i, n, s, bits, signed)
	}
	canon, bad := Canon(i)
	if bad != err || !equal(canon, want) {
		t.Fatalf("Canon(%+v) = %+v, %v, not %+v, %v", i, canon, bad, want, err)
	}
	if Same(i, i) != (err == api.OK) || Same(i, canon) != (err == api.OK) || Same(canon, i) != (err == api.OK) {
		t.Fatalf("Same of %+v, itself and %+v", i, canon)
	}
	spelt(t, i, want, err)
	if err != api.OK {
		return
	}
	if again, err := Canon(canon); Check(canon) != api.OK || err != api.OK || !equal(again, canon) {
		t.Fatalf("%+v, the canon of %+v, has the canon %+v", canon, i, again)
	}
}

// spelt compares what Spellings answers with what the document says of an instruction with that canon, or that error.
func spelt(t *testing.T, i, canon api.Inst, err api.Errno) {
	t.Helper()
	var want []api.Inst
	if err == api.OK {
		want = append(want, canon)
		if l := canon.Args; i.Op == api.OpXchg && len(l) == 2 && l[0].R.Class == l[1].R.Class && l[0].Kind == api.ArgReg && l[1].Kind == api.ArgReg && l[0].R.N != l[1].R.N {
			want = append(want, api.Inst{Op: i.Op, Args: []api.Arg{l[1], l[0]}})
		}
	}
	got := Spellings(i)
	if !slices.EqualFunc(got, want, equal) {
		t.Fatalf("Spellings(%+v) = %+v, not %+v", i, got, want)
	}
	for _, s := range got {
		if !Same(s, i) {
			t.Fatalf("%+v, a spelling of %+v, is not the same", s, i)
		}
	}
}
