package modrm

import (
	"iter"
	"math/bits"
	"slices"

	"linotype/api"
	"linotype/reg"
)

// head is what stands ahead of a displacement, but for mod and the middle field; and the bits that it needs.
type head struct {
	rm    int
	sib   []byte // one, or none
	x, b  int
	base  int  // the low part of the base, if there is one
	alone bool // there is none that is expressed as such: mod says nothing of the displacement
}

// register tells the way of a register.
func register(middle int, r api.Reg) api.Laid {
	return api.Laid{Bytes: []byte{join(modRegister, middle, reg.Low(r))}, B: reg.High(r)}
}

// ways yields the ways of a place, in order.
func ways(middle int, m api.Mem) iter.Seq[api.Laid] {
	return func(yield func(api.Laid) bool) {
		for _, h := range heads(m) {
			for t := range h.tails(m.Disp) {
				b := slices.Concat([]byte{join(t.mod, middle, h.rm)}, h.sib, t.disp)
				if !yield(api.Laid{Bytes: b, X: h.x, B: h.b}) {
					return
				}
			}
		}
	}
}

// tail is a displacement as bytes, and the mod that says how many.
type tail struct {
	mod  int
	disp []byte
}

// tails yields how a displacement may be laid behind a head.
func (h head) tails(disp int) iter.Seq[tail] {
	return func(yield func(tail) bool) {
		for mod, d := range displacements() {
			b, may := d.lay(disp, h.base)
			switch {
			case h.alone && mod == fourBytes:
				mod = modPlain
			case h.alone || !may:
				continue
			}
			if !yield(tail{mod, b}) {
				return
			}
		}
	}
}

// heads tells what may stand ahead of a place's displacement, in order.
func heads(m api.Mem) []head {
	switch {
	case m.Base.Class == api.RIP:
		return []head{{rm: rmRip, alone: true}}
	case m.Base == api.Reg{}:
		return []head{indexed(m.Index, m.Scale)}
	case m.Index != api.Reg{}:
		return []head{based(m.Base, m.Index, m.Scale)}
	}
	var l []head
	if low := reg.Low(m.Base); low != rmSIB {
		l = append(l, head{rm: low, b: reg.High(m.Base), base: low})
	}
	l = append(l, based(m.Base, api.Reg{}, 0))
	// The number of rsp as an index, with an X of 0, says that there is none.
	if m.Base.N != indexNone {
		l = append(l, indexed(m.Base, 1))
	}
	return l
}

// indexed tells the head with SIB that has an index, or none, and no base.
func indexed(index api.Reg, scale int) head {
	return head{rm: rmSIB, sib: sib(index, scale, baseNone), x: reg.High(index), alone: true}
}

// based tells the head with SIB that has a base, and an index, or none.
func based(base, index api.Reg, scale int) head {
	low := reg.Low(base)
	return head{rm: rmSIB, sib: sib(index, scale, low), x: reg.High(index), b: reg.High(base), base: low}
}

// sib tells SIB, with the low part of a base.
func sib(index api.Reg, scale, base int) []byte {
	if index == (api.Reg{}) {
		return []byte{join(0, indexNone, base)}
	}
	return []byte{join(bits.TrailingZeros(uint(scale)), reg.Low(index), base)}
}
