package shape

import (
	"math"

	"linotype/api"
)

// entry is a valid operand as shapes look at it: if it is an immediate, N is its value in that many bits.
type entry struct {
	api.Arg
	bits int
}

// fitting tells for each shape what fits it.
// None of the functions keeps anything: so they are made without memory, each time that an instruction is held against a form.
func fitting() []func(entry) bool {
	return []func(entry) bool{
		api.ShR8:   func(e entry) bool { return e.narrow() },
		api.ShR16:  func(e entry) bool { return e.register(api.R16) },
		api.ShR32:  func(e entry) bool { return e.register(api.R32) },
		api.ShR64:  func(e entry) bool { return e.register(api.R64) },
		api.ShX:    func(e entry) bool { return e.register(api.X) },
		api.ShY:    func(e entry) bool { return e.register(api.Y) },
		api.ShRM8:  func(e entry) bool { return e.narrow() || e.place(1) },
		api.ShRM16: func(e entry) bool { return e.register(api.R16) || e.place(2) },
		api.ShRM32: func(e entry) bool { return e.register(api.R32) || e.place(4) },
		api.ShRM64: func(e entry) bool { return e.register(api.R64) || e.place(8) },
		api.ShXM4:  func(e entry) bool { return e.register(api.X) || e.place(4) },
		api.ShXM8:  func(e entry) bool { return e.register(api.X) || e.place(8) },
		api.ShXM16: func(e entry) bool { return e.register(api.X) || e.place(16) },
		api.ShYM32: func(e entry) bool { return e.register(api.Y) || e.place(32) },
		api.ShM:    func(e entry) bool { return e.place(0) },
		api.ShM2:   func(e entry) bool { return e.place(2) },
		api.ShM4:   func(e entry) bool { return e.place(4) },
		api.ShM8:   func(e entry) bool { return e.place(8) },
		api.ShM16:  func(e entry) bool { return e.place(16) },
		api.ShM32:  func(e entry) bool { return e.place(32) },
		api.ShImm1: func(e entry) bool { return e.immediate(8) },
		api.ShImm2: func(e entry) bool { return e.immediate(16) },
		api.ShImm4: func(e entry) bool { return e.immediate(32) },
		api.ShImm8: func(e entry) bool { return e.immediate(64) },
		api.ShImmS: func(e entry) bool { return e.Kind == api.ArgImm && e.bits > 8 && e.byte() },
		api.ShImmL: func(e entry) bool { return e.immediate(64) && within(e.N, math.MinInt32, math.MaxInt32) },
		api.ShRel1: func(e entry) bool { return e.Kind == api.ArgRel && e.byte() },
		api.ShRel4: func(e entry) bool { return e.Kind == api.ArgRel },
		api.ShAL:   func(e entry) bool { return e.fixed(api.R8, 0) },
		api.ShAX:   func(e entry) bool { return e.fixed(api.R16, 0) },
		api.ShEAX:  func(e entry) bool { return e.fixed(api.R32, 0) },
		api.ShRAX:  func(e entry) bool { return e.fixed(api.R64, 0) },
		api.ShCL:   func(e entry) bool { return e.fixed(api.R8, 1) },
		api.ShOne:  func(e entry) bool { return e.Kind == api.ArgImm && e.N == 1 },
	}
}

// register tells whether an operand is a register of a class.
func (e entry) register(class int) bool {
	return e.Kind == api.ArgReg && e.R.Class == class
}

// narrow tells whether an operand is a register of one byte.
func (e entry) narrow() bool {
	return e.register(api.R8) || e.register(api.R8H)
}

// fixed tells whether an operand is one register.
func (e entry) fixed(class, n int) bool {
	return e.register(class) && e.R.N == n
}

// place tells whether an operand is a place of a size.
func (e entry) place(size int) bool {
	return e.Kind == api.ArgMem && e.M.Size == size
}

// immediate tells whether an operand is an immediate in so many bits.
func (e entry) immediate(bits int) bool {
	return e.Kind == api.ArgImm && e.bits == bits
}

// byte tells whether the number of an operand fits in a byte, with a sign.
func (e entry) byte() bool {
	return within(e.N, math.MinInt8, math.MaxInt8)
}
