package modrm

import (
	"linotype/api"
	"linotype/field"
	"linotype/mem"
)

// reader reads an operand, byte by byte, with the bits that stand elsewhere.
type reader struct {
	from *field.Cursor
	x, b int
}

// operand reads a register or a place, and the middle field.
func (r reader) operand() (api.Seen, api.Errno) {
	mod, middle, rm := split(r.from.Byte())
	switch {
	case r.from.Err() != api.OK:
		return api.Seen{}, r.from.Err()
	case mod != modRegister:
		m, err := r.place(mod, rm)
		return api.Seen{Field: middle, Reg: -1, M: m}, err
	case r.x == 1:
		return api.Seen{}, api.ErrBytes
	}
	return api.Seen{Field: middle, Reg: 8*r.b + rm}, api.OK
}

// place reads SIB, if there is one, and the displacement.
func (r reader) place(mod, rm int) (api.Mem, api.Errno) {
	m, err := r.registers(mod, rm)
	if err != api.OK {
		return api.Mem{}, err
	}
	if m.Base.Class != api.R64 {
		mod = fourBytes
	}
	m.Disp = displacements()[mod].read(r.from)
	if err := r.from.Err(); err != api.OK {
		return api.Mem{}, err
	}
	return mem.Canon(m)
}

// registers reads all but the displacement.
func (r reader) registers(mod, rm int) (api.Mem, api.Errno) {
	rip := mod == modPlain && rm == rmRip
	switch {
	case rm == rmSIB:
		return r.sib(mod)
	case r.x == 1 || rip && r.b == 1:
		return api.Mem{}, api.ErrBytes
	case rip:
		return api.Mem{Base: api.Reg{Class: api.RIP}}, api.OK
	}
	return api.Mem{Base: wide(r.b, rm)}, api.OK
}

// sib reads SIB.
func (r reader) sib(mod int) (api.Mem, api.Errno) {
	scale, index, base := split(r.from.Byte())
	if err := r.from.Err(); err != api.OK {
		return api.Mem{}, err
	}
	var m api.Mem
	switch {
	case index != indexNone || r.x == 1:
		m.Index, m.Scale = wide(r.x, index), 1<<scale
	case scale != 0:
		return api.Mem{}, api.ErrBytes
	}
	switch {
	case base != baseNone || mod != modPlain:
		m.Base = wide(r.b, base)
	case r.b == 1:
		return api.Mem{}, api.ErrBytes
	}
	return m, api.OK
}

// wide tells the register of R64 with these parts.
func wide(high, low int) api.Reg {
	return api.Reg{Class: api.R64, N: 8*high + low}
}
