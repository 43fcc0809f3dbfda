package modrm

import (
	"slices"
	"strings"
	"testing"

	"linotype/api"
)

// operands tells canons: of the registers of a class, and of all places with that displacement.
func operands(disp int) []api.Arg {
	var l []api.Arg
	for n := range 16 {
		l = append(l, api.Arg{Kind: api.ArgReg, R: r64(n)})
	}
	for _, k := range meanings() {
		if k.reg < 0 {
			k.m.Disp = disp
			l = append(l, place(k.m))
		}
	}
	return l
}

// P9.3: what is laid is read as it was, with those bits, whatever follows; the first way is never longer than another one.
func TestLaidIsRead(t *testing.T) {
	for _, disp := range edges() {
		for i, a := range operands(disp) {
			middle := i % 8
			l, err := All(middle, a)
			if err != api.OK || len(l) == 0 {
				t.Fatalf("All(%d, %+v): %v", middle, a, err)
			}
			want := api.Seen{Field: middle, Reg: a.R.N}
			if a.Kind == api.ArgMem {
				want.Reg, want.M = -1, a.M
			}
			for _, w := range l {
				want.Ends = len(w.Bytes)
				for _, more := range []string{"", "\x00", "\xff\xff", strings.Repeat("\x24\x85\xc0\x66", 20)} {
					if got, err := Read(append(slices.Clone(w.Bytes), more...), 0, w.X, w.B); err != api.OK || got != want {
						t.Fatalf("%+v is laid as %+v, and read as %+v, %v", a, w, got, err)
					}
				}
				if len(w.Bytes) < len(l[0].Bytes) || len(w.Bytes) > 6 {
					t.Fatalf("%+v: %+v behind %+v", a, w, l[0])
				}
			}
		}
	}
}

// P9.3: what is read is laid so in one of the ways.
func TestReadIsLaid(t *testing.T) {
	count := 0
	for bits := range 4 {
		for first := range 256 {
			for second := range 256 {
				for _, tail := range tails() {
					b := append([]byte{byte(first), byte(second)}, tail...)
					s, err := Read(b, 0, bits/2, bits%2)
					if err != api.OK {
						continue
					}
					count++
					a := place(s.M)
					if s.Reg >= 0 {
						a = api.Arg{Kind: api.ArgReg, R: r64(s.Reg)}
					}
					l, err := All(s.Field, a)
					is := func(w api.Laid) bool {
						return slices.Equal(w.Bytes, b[:s.Ends]) && w.X == bits/2 && w.B == bits%2
					}
					if err != api.OK || !slices.ContainsFunc(l, is) {
						t.Fatalf("%x, %d is read as %+v, and laid as %v, %v", b, bits, s, l, err)
					}
				}
			}
		}
	}
	if count < 100000 {
		t.Error(count)
	}
}

// P9.3: no way begins with the bytes of another one, of that operand or any, with the same bits.
func TestNoPrefix(t *testing.T) {
	var l [4][]string
	seen := map[api.Arg]bool{}
	for _, disp := range []int{0, 1, -1, 127, 128, -129, 0x0505} {
		for _, a := range operands(disp) {
			if seen[a] {
				continue
			}
			seen[a] = true
			for middle := range 8 {
				ways, _ := All(middle, a)
				for _, w := range ways {
					l[2*w.X+w.B] = append(l[2*w.X+w.B], string(w.Bytes))
				}
			}
		}
	}
	for bits := range l {
		slices.Sort(l[bits])
		for n := 1; n < len(l[bits]); n++ {
			if strings.HasPrefix(l[bits][n], l[bits][n-1]) {
				t.Fatalf("%x begins with %x", l[bits][n], l[bits][n-1])
			}
		}
	}
}
