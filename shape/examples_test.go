package shape

import (
	"testing"

	"linotype/api"
)

// The operands of the chapter's examples, and others.
func register(class, n int) api.Arg {
	return api.Arg{Kind: api.ArgReg, R: api.Reg{Class: class, N: n}}
}
func place(size int) api.Arg {
	return api.Arg{Kind: api.ArgMem, M: api.Mem{Base: api.Reg{Class: api.R64}, Size: size}}
}
func imm(n int) api.Arg { return api.Arg{Kind: api.ArgImm, N: n} }
func rel(n int) api.Arg { return api.Arg{Kind: api.ArgRel, N: n} }

// of tells an instruction.
func of(op int, args ...api.Arg) api.Inst { return api.Inst{Op: op, Args: args} }

// P12.1, P12.2: the examples of the chapter.
func TestExamples(t *testing.T) {
	f := api.Form{Op: api.OpAdd, Shapes: []int{api.ShRM32, api.ShImmS}, Slots: []int{api.SlotRM, api.SlotImm}, Code: 131}
	if Check(f) != api.OK || !Modrm(f) || Tail(f) != 1 || Slot(f, api.SlotImm) != 1 || Slot(f, api.SlotReg) != -1 {
		t.Error(Check(f), Modrm(f), Tail(f), Slot(f, api.SlotImm), Slot(f, api.SlotReg))
	}
	ecx := register(api.R32, 1)
	for n, w := range []struct {
		i    api.Inst
		fits bool
	}{
		{of(api.OpAdd, ecx, imm(5)), true}, {of(api.OpAdd, ecx, imm(200)), false}, {of(api.OpAdd, place(4), imm(-1)), true},
		{of(api.OpAdd, register(api.R16, 1), imm(5)), false}, {of(api.OpOr, ecx, imm(5)), false},
	} {
		if got := Fits(f, w.i); got != w.fits {
			t.Errorf("%d: %v", n, got)
		}
	}
	for n, w := range []struct {
		change func(f *api.Form)
		err    api.Errno
	}{
		{func(f *api.Form) { f.Digit = -1 }, api.ErrArg}, {func(f *api.Form) { f.Code = 102 }, api.ErrArg},
		{func(f *api.Form) { f.L = 1 }, api.ErrArg}, {func(f *api.Form) { f.Pre = 6 }, api.ErrRange},
	} {
		changed := f
		w.change(&changed)
		if err := Check(changed); err != w.err {
			t.Errorf("%d: %v", n, err)
		}
	}
}
