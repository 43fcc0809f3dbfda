package inst

import (
	"testing"

	"linotype/api"
)

// The operands of the chapter's examples.
func al() api.Arg  { return api.Arg{Kind: api.ArgReg, R: api.Reg{Class: api.R8}} }
func eax() api.Arg { return api.Arg{Kind: api.ArgReg, R: api.Reg{Class: api.R32}} }
func ecx() api.Arg { return api.Arg{Kind: api.ArgReg, R: api.Reg{Class: api.R32, N: 1}} }
func at(n int) api.Arg {
	return api.Arg{Kind: api.ArgMem, M: api.Mem{Base: api.Reg{Class: api.R64, N: n}}}
}
func imm(n int) api.Arg {
	return api.Arg{Kind: api.ArgImm, N: n}
}

// of tells an instruction.
func of(op int, args ...api.Arg) api.Inst { return api.Inst{Op: op, Args: args} }

// P8.1, P8.2: the examples of the chapter.
func TestExamples(t *testing.T) {
	for _, w := range []struct{ i, canon api.Inst }{
		{of(api.OpAdd, al(), imm(255)), of(api.OpAdd, al(), imm(-1))},
		{of(api.OpImul, eax(), imm(5)), of(api.OpImul, eax(), eax(), imm(5))},
		{of(api.OpXchg, ecx(), eax()), of(api.OpXchg, eax(), ecx())},
		{of(api.OpTest, eax(), at(3)), of(api.OpTest, at(3), eax())},
	} {
		if got, err := Canon(w.i); !equal(got, w.canon) || err != api.OK {
			t.Errorf("Canon(%+v) = %+v, %v", w.i, got, err)
		}
	}
	for n, w := range []struct {
		i   api.Inst
		err api.Errno
	}{
		{of(0), api.ErrMissing}, {of(api.OpAdd, al(), imm(256)), api.ErrRange}, {of(api.OpAdd, imm(1), imm(2)), api.ErrArg},
		{of(api.OpPush, imm(-1)), api.OK}, {of(api.OpRet, imm(65535)), api.OK}, {of(api.OpMov, at(0), at(3)), api.ErrArg},
	} {
		if err := Check(w.i); err != w.err {
			t.Errorf("%d: %v", n, err)
		}
	}
	for n, w := range []struct {
		i      api.Inst
		bits   int
		signed bool
	}{{of(api.OpAdd, eax(), imm(5)), 32, true}, {of(api.OpShl, eax(), imm(5)), 8, false}, {of(api.OpPush, imm(1)), 64, true}} {
		if bits, signed := Bits(w.i); bits != w.bits || signed != w.signed {
			t.Errorf("%d: %d, %v", n, bits, signed)
		}
	}
	if !Same(of(api.OpRet, imm(-1)), of(api.OpRet, imm(65535))) {
		t.Error("ret")
	}
}
