package modrm

import (
	"linotype/api"
	"linotype/field"
)

// The fields of ModRM and SIB that are not the low part of a register.
const (
	modPlain    = 0 // no displacement; but see rmRip and baseNone
	modRegister = 3
	rmSIB       = 4
	rmRip       = 5 // with modPlain
	indexNone   = 4 // with an X of 0
	baseNone    = 5 // with modPlain
)

// fourBytes is which of the displacements has four: the only one beside no register, and beside rip.
const fourBytes = 2

// displacement is how a displacement is laid, if it may be so over the low part of a register, and how it is read.
type displacement struct {
	lay  func(disp, low int) ([]byte, bool)
	read func(from *field.Cursor) int
}

// displacements tells the three: each one's place is its mod.
func displacements() []displacement {
	none := displacement{
		// That low part, without a displacement, says rip, or no base.
		func(disp, low int) ([]byte, bool) { return nil, disp == 0 && low != baseNone },
		func(*field.Cursor) int { return 0 },
	}
	return []displacement{none, sized(1), sized(4)}
}

// sized tells the displacement of a number of bytes.
func sized(size int) displacement {
	return displacement{
		func(disp, _ int) ([]byte, bool) {
			// Put takes numbers without a sign, too: a displacement has one.
			if !field.Fits(disp, 8*size) {
				return nil, false
			}
			b, err := field.Put(disp, size)
			return b, err == api.OK
		},
		func(from *field.Cursor) int { return from.Int(size, true) },
	}
}

// join tells the byte of two bits and twice three; split tells these.
func join(high, middle, low int) byte {
	return byte(high<<6 | middle<<3 | low)
}

func split(n int) (high, middle, low int) {
	return n >> 6, n >> 3 & 7, n & 7
}
