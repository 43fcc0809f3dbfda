package shape

import (
	"math"
	"slices"
	"testing"

	"linotype/api"
	"linotype/inst"
	"linotype/operand"
	"linotype/reg"
)

// home tells a slot that matches a shape.
func home(shape int) int {
	for _, slot := range []int{api.SlotRM, api.SlotImm, api.SlotFixed} {
		if slices.Contains(slotted[slot], shape) {
			return slot
		}
	}
	return 0
}

// formed tells a valid form with these shapes, or one that is not valid if there is none. The second of two shapes that both want the low field goes to the middle one.
func formed(op int, shapes ...int) api.Form {
	f := api.Form{Op: op, Shapes: shapes, Digit: -1, Code: 1}
	for _, s := range shapes {
		f.Slots = append(f.Slots, home(s))
	}
	if at := Slot(f, api.SlotRM); at >= 0 {
		f.Digit = 0
		for n := len(shapes) - 1; n >= 0; n-- {
			if f.Slots[n] == api.SlotRM && count(f, api.SlotRM) == 2 && shapes[n] <= api.ShY {
				f.Slots[n], f.Digit = api.SlotReg, -1
			}
		}
	}
	return f
}

// samples tells operands of all kinds: all registers, places of all sizes, numbers and distances at bounds; also such as are not valid.
func samples() []api.Arg {
	var l []api.Arg
	for class := api.R8; class <= api.RIP; class++ {
		for _, r := range reg.All(class) {
			l = append(l, api.Arg{Kind: api.ArgReg, R: r})
		}
	}
	for _, size := range []int{0, 1, 2, 4, 8, 16, 32, 3, 64, -1} {
		l = append(l, place(size))
	}
	l = append(l, api.Arg{}, api.Arg{Kind: 5}, api.Arg{Kind: -1, N: 1}, register(api.R8H, 0), register(api.R32, 16), register(0, 0), register(9, 1))
	return append(l, amounts()...)
}

// amounts tells numbers and distances at bounds.
func amounts() []api.Arg {
	var l []api.Arg
	for _, n := range []int{0, 1, 2, -1, 5, 126, 127, 128, 129, -127, -128, -129, 200, 254, 255, 256, 257, -254, -255, -256, 32767, 32768, 65534, 65535, 65536, 65537, -32768, -32769, 0xff7f, 0xff80, 0xff81,
		math.MaxInt32, math.MaxInt32 + 1, math.MinInt32, math.MinInt32 - 1, math.MaxUint32, math.MaxUint32 + 1, math.MaxUint32 + 2, 0xffff_ff7f, 0xffff_ff80, 0xffff_ff81, 0x8000_0000, math.MinInt, math.MaxInt} {
		l = append(l, imm(n), rel(n))
	}
	return l
}

// held holds what Fits says against what the document says.
func held(t *testing.T, f api.Form, i api.Inst) {
	t.Helper()
	if got, want := Fits(f, i), fit(f, i); got != want {
		t.Fatalf("Fits(%+v, %+v) = %v", f, i, got)
	}
}

// P12.2: each operand against each shape, alone, with mnemonics whose immediates have bits of their own.
func TestOne(t *testing.T) {
	fitted := map[int]bool{}
	for _, shape := range shapesAll() {
		for _, op := range []int{api.OpAdd, api.OpPush, api.OpRet, api.OpShl, api.OpMovaps, api.OpJmp} {
			f := formed(op, shape)
			for _, a := range samples() {
				held(t, f, of(op, a))
				held(t, f, of(api.OpCall, a))
				fitted[shape] = fitted[shape] || Fits(f, of(op, a))
			}
		}
	}
	for shape := api.ShR8; shape <= api.ShM2; shape++ {
		// No mnemonic has immediates of 32 bits by itself.
		if !fitted[shape] && shape != api.ShImm4 {
			t.Errorf("nothing fits %d", shape)
		}
	}
}

// P12.2: each number against each shape behind each kind of first operand, which tells how many bits it has, or not.
func TestImmediates(t *testing.T) {
	first := map[int]api.Arg{
		api.ShR8: register(api.R8, 3), api.ShR16: register(api.R16, 9), api.ShR32: register(api.R32, 1), api.ShR64: register(api.R64, 15), api.ShX: register(api.X, 2), api.ShY: register(api.Y, 2),
		api.ShRM8: register(api.R8H, 4), api.ShRM16: place(2), api.ShRM32: place(4), api.ShRM64: place(8), api.ShM: place(0), api.ShM16: place(16), api.ShAL: register(api.R8, 0), api.ShRAX: register(api.R64, 0),
	}
	for shape, a := range first {
		for second := api.ShImm1; second <= api.ShM2; second++ {
			for _, op := range []int{api.OpAdd, api.OpImul, api.OpTest, api.OpShl, api.OpPush, api.OpRet} {
				f := formed(op, shape, second)
				for _, b := range amounts() {
					held(t, f, of(op, a, b))
				}
			}
		}
	}
}

// P12.2: what numbers are in their bits, written out.
func TestValues(t *testing.T) {
	cx, ecx, rcx, cl := register(api.R16, 1), register(api.R32, 1), register(api.R64, 1), register(api.R8, 1)
	for _, w := range []struct {
		op, first, second int
		a                 api.Arg
		n                 int
		fits              bool
	}{
		{api.OpAdd, api.ShRM16, api.ShImmS, cx, 65535, true}, {api.OpAdd, api.ShRM16, api.ShImmS, cx, 65408, true}, {api.OpAdd, api.ShRM16, api.ShImmS, cx, 65407, false}, {api.OpAdd, api.ShRM16, api.ShImmS, cx, 128, false},
		{api.OpAdd, api.ShRM32, api.ShImmS, ecx, 4294967168, true}, {api.OpAdd, api.ShRM32, api.ShImmS, ecx, 4294967167, false}, {api.OpAdd, api.ShRM32, api.ShImmS, ecx, -128, true}, {api.OpAdd, api.ShRM32, api.ShImmS, ecx, -129, false},
		{api.OpAdd, api.ShRM64, api.ShImmS, rcx, 127, true}, {api.OpAdd, api.ShRM64, api.ShImmS, rcx, 128, false}, {api.OpAdd, api.ShRM64, api.ShImmS, rcx, 4294967295, false}, {api.OpAdd, api.ShRM8, api.ShImmS, cl, 5, false},
		{api.OpAdd, api.ShRM64, api.ShImmL, rcx, math.MaxInt32, true}, {api.OpAdd, api.ShRM64, api.ShImmL, rcx, math.MaxInt32 + 1, false}, {api.OpAdd, api.ShRM64, api.ShImmL, rcx, math.MinInt32, true}, {api.OpAdd, api.ShRM64, api.ShImmL, rcx, math.MinInt32 - 1, false},
		{api.OpAdd, api.ShRM32, api.ShImmL, ecx, 5, false}, {api.OpAdd, api.ShRM32, api.ShImm4, ecx, 5, true}, {api.OpAdd, api.ShRM64, api.ShImm8, rcx, 5, true}, {api.OpAdd, api.ShRM64, api.ShImm4, rcx, 5, false}, {api.OpAdd, api.ShRM8, api.ShImm1, cl, 255, true},
		{api.OpShl, api.ShRM32, api.ShImm1, ecx, 5, true}, {api.OpShl, api.ShRM32, api.ShImm4, ecx, 5, false}, {api.OpShl, api.ShRM32, api.ShImmS, ecx, 5, false}, {api.OpShl, api.ShRM32, api.ShOne, ecx, 1, true}, {api.OpShl, api.ShRM32, api.ShOne, ecx, -1, false},
		{api.OpShl, api.ShRM32, api.ShOne, ecx, 257, false}, {api.OpAdd, api.ShRM64, api.ShOne, rcx, 1, true}, {api.OpRet, api.ShRM64, api.ShImmS, rcx, 127, true}, {api.OpRet, api.ShRM64, api.ShImmS, rcx, -1, false}, {api.OpRet, api.ShRM64, api.ShImm2, rcx, -1, true},
		{api.OpPush, api.ShRM16, api.ShImmS, cx, -1, true}, {api.OpPush, api.ShRM16, api.ShImmL, cx, -1, true}, {api.OpPush, api.ShRM16, api.ShImmS, cx, 65535, false},
	} {
		if got := Fits(formed(w.op, w.first, w.second), of(w.op, w.a, imm(w.n))); got != w.fits {
			t.Errorf("%d of %d in %d behind %d: %v", w.n, w.op, w.second, w.first, got)
		}
	}
}

// few tells some operands of each kind.
func few() []api.Arg {
	return []api.Arg{
		register(api.R8, 0), register(api.R8, 1), register(api.R8H, 5), register(api.R16, 0), register(api.R32, 0), register(api.R32, 7), register(api.R64, 0), register(api.R64, 8), register(api.X, 0), register(api.Y, 1),
		place(0), place(1), place(2), place(4), place(8), place(16), place(32), imm(1), imm(-128), imm(255), imm(math.MaxInt32), imm(math.MaxInt), rel(127), rel(-129), rel(math.MinInt32), {}, register(api.RIP, 0),
	}
}

// P12.2, P12.3: two operands against two shapes, all of them: each is held against its shape alone.
func TestTwo(t *testing.T) {
	for first := api.ShR8; first <= api.ShM2; first++ {
		for second := api.ShR8; second <= api.ShM2; second++ {
			for _, op := range []int{api.OpAdd, api.OpShl} {
				f := formed(op, first, second)
				for _, a := range few() {
					for _, b := range few() {
						held(t, f, of(op, a, b))
					}
				}
			}
		}
	}
}

// P12.2: how many operands there are, up to five, and none.
func TestHowMany(t *testing.T) {
	f := api.Form{Op: api.OpVpblendvb, Shapes: []int{api.ShX, api.ShX, api.ShXM16, api.ShX}, Slots: []int{api.SlotReg, api.SlotV, api.SlotRM, api.SlotIs4}, Pre: api.PreSize, Map: 3, Code: 76, Digit: -1, Vex: true}
	x, y := register(api.X, 3), register(api.Y, 3)
	all := []api.Arg{x, x, place(16), x, x}
	for n := range 6 {
		if Fits(f, of(f.Op, all[:n]...)) != (n == 4) {
			t.Errorf("%d operands", n)
		}
	}
	for n := range 4 {
		l := slices.Clone(all[:4])
		l[n] = y
		if Fits(f, of(f.Op, l...)) {
			t.Errorf("operand %d does not fit", n)
		}
	}
	none := api.Form{Op: api.OpNop, Code: 144, Digit: -1}
	if !Fits(none, of(api.OpNop)) || !Fits(none, of(api.OpNop, []api.Arg{}...)) || Fits(none, of(api.OpNop, x)) || Fits(none, of(api.OpRet)) || Fits(f, of(f.Op)) {
		t.Error("none")
	}
}

// P12.2: nothing fits a form that is not valid; what is not valid fits none.
func TestNotValid(t *testing.T) {
	for _, f := range bases() {
		var args []api.Arg
		for _, s := range f.Shapes {
			for _, a := range few() {
				if Fits(formed(api.OpShl, s), of(api.OpShl, a)) || s == api.ShImmS && a == imm(-128) || s == api.ShImm2 && a == imm(1) {
					args = append(args, a)
					break
				}
			}
		}
		i := of(f.Op, args...)
		if !Fits(f, i) {
			t.Errorf("Fits(%+v, %+v) = false", f, i)
		}
		for _, p := range numbers(&f) {
			kept := *p
			for _, n := range append(far(), -2, -1, 0, 1, 2, 3, 4, 5, 6, 8, 15, 102, 256) {
				*p = n
				held(t, f, of(f.Op, args...))
			}
			*p = kept
		}
		for n := range f.Slots {
			changed := copied(f)
			changed.Slots[n] = 9
			held(t, changed, i)
			changed.Slots = changed.Slots[:n]
			held(t, changed, i)
			broken := slices.Clone(args)
			broken[n] = api.Arg{Kind: api.ArgReg, R: api.Reg{Class: api.R32, N: 16}}
			held(t, f, of(f.Op, broken...))
		}
	}
	if f := (api.Form{Digit: -1}); Fits(f, api.Inst{}) {
		t.Error("no mnemonic")
	}
	long := slices.Repeat([]api.Arg{register(api.R8, 1)}, 5)
	if f := (api.Form{Op: api.OpAdd, Shapes: slices.Repeat([]int{api.ShCL}, 5), Slots: slices.Repeat([]int{api.SlotFixed}, 5), Digit: -1}); Fits(f, of(api.OpAdd, long...)) {
		t.Error("five operands")
	}
}

// P12.2: an operand is held against its shape as it is written: not in the order of the canon, not with the operands that the canon has more.
func TestAsWritten(t *testing.T) {
	eax, ecx := register(api.R32, 0), register(api.R32, 1)
	for n, w := range []struct {
		f    api.Form
		i    api.Inst
		fits bool
	}{
		{formed(api.OpTest, api.ShM4, api.ShR32), of(api.OpTest, eax, place(4)), false}, {formed(api.OpTest, api.ShR32, api.ShM4), of(api.OpTest, eax, place(4)), true},
		{formed(api.OpXchg, api.ShEAX, api.ShR32), of(api.OpXchg, ecx, eax), false}, {formed(api.OpXchg, api.ShR32, api.ShEAX), of(api.OpXchg, ecx, eax), true},
		{formed(api.OpImul, api.ShR32, api.ShRM32, api.ShImmS), of(api.OpImul, eax, imm(5)), false}, {formed(api.OpImul, api.ShRM32, api.ShImmS), of(api.OpImul, eax, imm(5)), true},
	} {
		if Check(w.f) != api.OK || Fits(w.f, w.i) != w.fits {
			t.Errorf("%d: %v, %v", n, Check(w.f), Fits(w.f, w.i))
		}
	}
}

// canonical tells an instruction with each operand in canonical form, and its immediate as that number in that many bits.
func canonical(i api.Inst) api.Inst {
	bits, signed := inst.Bits(i)
	args := slices.Clone(i.Args)
	for n := range args {
		args[n], _ = operand.Canon(args[n])
		if args[n].Kind == api.ArgImm {
			args[n].N, _ = operand.Imm(args[n].N, bits, signed)
		}
	}
	return api.Inst{Op: i.Op, Args: args}
}

// P12.3: whether an instruction fits does not hang on how its operands are written; what does not count in them does not count.
func TestCanon(t *testing.T) {
	rbx, rsp := api.Reg{Class: api.R64, N: 3}, api.Reg{Class: api.R64, N: 4}
	var cluttered []api.Arg
	for _, a := range append(few(), imm(-1), imm(254), imm(257), imm(65408), imm(65535), imm(math.MaxUint32-127), imm(math.MaxUint32), imm(math.MinInt32)) {
		m := a.M
		switch a.Kind {
		case api.ArgReg:
			a.M, a.N = api.Mem{Base: rsp, Scale: 9, Size: 4}, 1
		case api.ArgMem:
			a.R, a.N = api.Reg{Class: api.R32, N: 1}, 1
			a.M = api.Mem{Index: rbx, Scale: 1, Disp: -9, Size: m.Size}
			cluttered = append(cluttered, a)
			a.M = api.Mem{Base: rbx, Index: rsp, Scale: 1, Size: m.Size}
		default:
			a.R, a.M = api.Reg{Class: api.R8}, api.Mem{Size: 4}
		}
		cluttered = append(cluttered, a)
	}
	for first := api.ShR8; first <= api.ShM2; first++ {
		for _, second := range []int{api.ShRM32, api.ShR8, api.ShXM8, api.ShM, api.ShImm1, api.ShImmS, api.ShImm4, api.ShImmL, api.ShRel1, api.ShRel4, api.ShCL, api.ShOne} {
			for _, op := range []int{api.OpAdd, api.OpShl} {
				f, alone := formed(op, first, second), formed(op, first)
				for _, a := range cluttered {
					if Fits(alone, of(op, a)) != (inst.Check(of(op, a)) == api.OK && Fits(alone, canonical(of(op, a)))) {
						t.Fatalf("%+v, %+v", alone, a)
					}
					for _, b := range cluttered {
						i := of(op, a, b)
						if inst.Check(i) != api.OK {
							if Fits(f, i) {
								t.Fatalf("Fits(%+v, %+v)", f, i)
							}
							continue
						}
						if Fits(f, i) != Fits(f, canonical(i)) {
							t.Fatalf("Fits(%+v, %+v) = %v", f, i, Fits(f, i))
						}
					}
				}
			}
		}
	}
}

// Rule 4 of the document: nothing that is passed is changed.
func TestNothingChanges(t *testing.T) {
	f := formed(api.OpAdd, api.ShRM16, api.ShImmS)
	i := of(api.OpAdd, register(api.R16, 1), imm(65535))
	i.Args[0].N = 7
	before, args := copied(f), slices.Clone(i.Args)
	if !Fits(f, i) || Check(f) != api.OK {
		t.Error(f, i)
	}
	if !slices.Equal(f.Shapes, before.Shapes) || !slices.Equal(f.Slots, before.Slots) || !slices.Equal(i.Args, args) {
		t.Error(f, i)
	}
	whole := append(slices.Clone(args), rel(5))
	if !Fits(f, of(api.OpAdd, whole[:2]...)) || Fits(f, of(api.OpAdd, whole...)) || Fits(f, of(api.OpAdd, whole[:1]...)) {
		t.Error("spare capacity")
	}
}
