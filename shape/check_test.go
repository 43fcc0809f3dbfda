package shape

import (
	"testing"

	"linotype/api"
)

// checked holds what Check says of a form against what the document says of it.
func checked(t *testing.T, f api.Form) {
	t.Helper()
	if got, want := Check(f), told(f); got != want {
		t.Fatalf("Check(%+v) = %v, not %v", f, got, want)
	}
}

// bases tells forms that are valid, of each kind.
func bases() []api.Form {
	return []api.Form{
		{Op: api.OpAdd, Shapes: []int{api.ShRM32, api.ShImmS}, Slots: []int{api.SlotRM, api.SlotImm}, Code: 131},
		{Op: api.OpAdd, Shapes: []int{api.ShR32, api.ShRM32}, Slots: []int{api.SlotReg, api.SlotRM}, Code: 3, Digit: -1, W: 1},
		{Op: api.OpMov, Shapes: []int{api.ShR16, api.ShImm2}, Slots: []int{api.SlotCode, api.SlotImm}, Pre: api.PreSize, Code: 184, Digit: -1},
		{Op: api.OpNop, Code: 144, Digit: -1},
		{Op: api.OpShl, Shapes: []int{api.ShRM8, api.ShOne}, Slots: []int{api.SlotRM, api.SlotFixed}, Code: 208, Digit: 4},
		{Op: api.OpXor, Shapes: []int{api.ShRAX, api.ShAL, api.ShAL, api.ShCL}, Slots: []int{api.SlotFixed, api.SlotFixed, api.SlotFixed, api.SlotFixed}, Pre: 5, Code: 255, Digit: -1},
		{Op: api.OpCrc32, Shapes: []int{api.ShR32, api.ShRM16}, Slots: []int{api.SlotReg, api.SlotRM}, Pre: 3, Map: 2, Code: 241, Digit: -1},
		{Op: api.OpBswap, Shapes: []int{api.ShR64}, Slots: []int{api.SlotCode}, Map: 1, Code: 200, Digit: -1, W: 1},
		{Op: api.OpVpblendvb, Shapes: []int{api.ShY, api.ShY, api.ShYM32, api.ShY}, Slots: []int{api.SlotReg, api.SlotV, api.SlotRM, api.SlotIs4}, Pre: api.PreSize, Map: 3, Code: 76, Digit: -1, Vex: true, L: 1},
		{Op: api.OpBlsr, Shapes: []int{api.ShR64, api.ShRM64}, Slots: []int{api.SlotV, api.SlotRM}, Map: 2, Code: 243, Digit: 1, W: 1, Vex: true},
		{Op: api.OpVzeroall, Map: 1, Code: 119, Digit: -1, W: -1, Vex: true, L: 1, Pre: api.PreF3},
		{Op: api.OpVfmadd231pd, Shapes: []int{api.ShX, api.ShXM16, api.ShImm1}, Slots: []int{api.SlotReg, api.SlotRM, api.SlotImm}, Pre: api.PreF2, Map: 3, Digit: -1, Vex: true},
		{Op: api.OpMulx, Shapes: []int{api.ShR32}, Slots: []int{api.SlotCode}, Map: 1, Code: 64, Digit: -1, Vex: true},
	}
}

// numbers tells the numbers of a form one by one.
func numbers(f *api.Form) []*int {
	return []*int{&f.Op, &f.Pre, &f.Map, &f.Code, &f.Digit, &f.W, &f.L}
}

// P12.1: the forms of the table above are valid; so are forms with each mnemonic, and none but those.
func TestValid(t *testing.T) {
	for _, f := range bases() {
		if err := Check(f); err != api.OK {
			t.Errorf("Check(%+v) = %v", f, err)
		}
		for op := 1; op <= api.Ops; op++ {
			f.Op = op
			if err := Check(f); err != api.OK {
				t.Errorf("Check(%+v) = %v", f, err)
			}
		}
		for _, op := range append(far(), -2, -1, 0, api.Ops+1, api.Ops+2) {
			if op >= 1 && op <= api.Ops {
				continue
			}
			f.Op = op
			if err := Check(f); err != api.ErrMissing {
				t.Errorf("Check(%+v) = %v", f, err)
			}
		}
	}
}

// P12.1: each number of a form, near and far, and two of them at a time, with VEX and without.
func TestNumbers(t *testing.T) {
	near := []int{-3, -2, -1, 0, 1, 2, 3, 4, 5, 6, 7, 8, 9, 254, 255, 256, 257, api.Ops, api.Ops + 1}
	for _, f := range bases() {
		for range 2 {
			for i, p := range numbers(&f) {
				kept := *p
				for _, n := range append(far(), near...) {
					*p = n
					checked(t, f)
				}
				for _, q := range numbers(&f)[i+1:] {
					other := *q
					for _, n := range near {
						for _, m := range append(near, 1<<32, -1<<32) {
							*p, *q = n, m
							checked(t, f)
						}
					}
					*q = other
				}
				*p = kept
			}
			f.Vex = !f.Vex
		}
	}
}

// P12.1: all opcodes of all maps, also behind each other kind of form; which of them are none in map 0, written out.
func TestCodes(t *testing.T) {
	for _, f := range bases() {
		for f.Map = 0; f.Map <= 3; f.Map++ {
			for f.Code = -300; f.Code <= 600; f.Code++ {
				checked(t, f)
			}
		}
	}
	f := api.Form{Op: api.OpNop, Digit: -1}
	for _, code := range []int{14, 16, 63, 80, 101, 103, 195, 198, 241, 244} {
		f.Code = code
		if err := Check(f); err != api.OK {
			t.Errorf("%d: %v", code, err)
		}
	}
	for _, code := range []int{15, 64, 65, 72, 79, 102, 196, 197, 242, 243} {
		f.Code, f.Map = code, 0
		if err := Check(f); err != api.ErrArg {
			t.Errorf("%d: %v", code, err)
		}
		f.Map = 1
		if err := Check(f); err != api.OK {
			t.Errorf("%d in map 1: %v", code, err)
		}
	}
	f = api.Form{Op: api.OpBswap, Shapes: []int{api.ShR32}, Slots: []int{api.SlotCode}, Digit: -1}
	for code := range 256 {
		for f.Map = range 4 {
			f.Code = code
			want := api.OK
			if code%8 != 0 || f.Map == 0 && (code == 64 || code == 72) {
				want = api.ErrArg
			}
			if err := Check(f); err != want {
				t.Errorf("%+v: %v", f, err)
			}
		}
	}
}

// P12.1: each shape in each slot, alone, and first and last of four.
func TestMatches(t *testing.T) {
	for slot := -1; slot <= 9; slot++ {
		for _, shape := range append(shapesAll(), far()...) {
			for digit := -1; digit <= 1; digit++ {
				for vex := range 2 {
					f := api.Form{Op: api.OpAdd, Shapes: []int{shape}, Slots: []int{slot}, Map: 1, Code: 8, Digit: digit, Vex: vex == 1}
					checked(t, f)
					f.Shapes, f.Slots = []int{shape, api.ShCL, api.ShOne, api.ShAL}, []int{slot, api.SlotFixed, api.SlotFixed, api.SlotFixed}
					checked(t, f)
					f.Shapes, f.Slots = []int{api.ShCL, api.ShOne, api.ShAL, shape}, []int{api.SlotFixed, api.SlotFixed, api.SlotFixed, slot}
					checked(t, f)
					f.Shapes, f.Slots = []int{api.ShRM8, shape}, []int{api.SlotRM, slot}
					checked(t, f)
				}
			}
		}
	}
	for _, slot := range far() {
		checked(t, api.Form{Op: api.OpAdd, Shapes: []int{api.ShAL}, Slots: []int{slot}, Map: 1, Digit: -1, Vex: true})
	}
}

// P12.1: all slots of up to four operands, each with a shape that matches, with all that hangs on them.
func TestSlots(t *testing.T) {
	first := []int{api.ShAL, api.ShR8, api.ShRM64, api.ShY, api.ShR64, api.ShRel4, api.ShOne, api.ShX, api.ShM}
	for n := range 9 * 9 * 9 * 9 {
		for size := range 5 {
			f := api.Form{Op: api.OpAdd}
			left := n
			for range size {
				f.Shapes, f.Slots = append(f.Shapes, first[left%9]), append(f.Slots, left%9)
				left /= 9
			}
			if left != 0 {
				continue
			}
			for _, f.Digit = range []int{-1, 0, 7} {
				for _, f.Code = range []int{0, 1, 2, 4, 12, 72} {
					f.Vex, f.Map = false, 0
					checked(t, f)
					f.Vex, f.Map = true, 1
					checked(t, f)
				}
			}
		}
	}
}

// P12.1: as many shapes as slots, and at most four of each.
func TestHowManyOperands(t *testing.T) {
	for shapes := range 8 {
		for slots := range 8 {
			f := api.Form{Op: api.OpAdd, Shapes: make([]int, shapes), Slots: make([]int, slots), Digit: -1}
			for n := range f.Shapes {
				f.Shapes[n] = api.ShCL
			}
			for n := range f.Slots {
				f.Slots[n] = api.SlotFixed
			}
			want := api.OK
			if shapes > 4 || slots > 4 {
				want = api.ErrLong
			} else if shapes != slots {
				want = api.ErrArg
			}
			if err := Check(f); err != want {
				t.Errorf("%d shapes, %d slots: %v", shapes, slots, err)
			}
			checked(t, f)
		}
	}
}

// P12.1: which error is told where several apply.
func TestOrder(t *testing.T) {
	long := make([]int, 5)
	for _, w := range []struct {
		f   api.Form
		err api.Errno
	}{
		{api.Form{Shapes: long, Slots: long, Pre: 6, Digit: 9, W: 5}, api.ErrMissing}, {api.Form{Op: api.Ops + 1, Pre: 6}, api.ErrMissing},
		{api.Form{Op: api.OpAdd, Shapes: long, Pre: 6}, api.ErrLong}, {api.Form{Op: api.OpAdd, Slots: long, Digit: -2, W: 3}, api.ErrLong}, {api.Form{Op: api.OpAdd, Shapes: long, L: 1}, api.ErrLong},
		{api.Form{Op: api.OpAdd, Pre: 6, W: 5, L: 7}, api.ErrRange}, {api.Form{Op: api.OpAdd, Pre: 6, Map: 1, Vex: true, Digit: -1}, api.ErrRange}, {api.Form{Op: api.OpAdd, Pre: 7, Vex: true}, api.ErrRange},
		{api.Form{Op: api.OpAdd, Map: 4, Vex: true, Digit: -1}, api.ErrRange}, {api.Form{Op: api.OpAdd, Map: 1, Code: 256, Vex: true, W: 9, Digit: -1}, api.ErrRange},
		{api.Form{Op: api.OpAdd, Shapes: []int{99}, Slots: []int{99, 98}, Digit: 8}, api.ErrRange}, {api.Form{Op: api.OpAdd, Digit: -2, Shapes: []int{1}}, api.ErrRange}, {api.Form{Op: api.OpAdd, Code: -1}, api.ErrRange},
		{api.Form{Op: api.OpAdd, Pre: 3, Map: 1, Vex: true, Digit: -1}, api.ErrArg}, {api.Form{Op: api.OpAdd, Pre: 5, Map: 1, Vex: true, Digit: -1}, api.ErrArg}, {api.Form{Op: api.OpAdd, Pre: 5, Map: 1, Digit: -1}, api.OK},
	} {
		if err := Check(w.f); err != w.err {
			t.Errorf("Check(%+v) = %v, not %v", w.f, err, w.err)
		}
		checked(t, w.f)
	}
}
