package shape

import (
	"slices"
	"testing"

	"linotype/api"
)

// behindTold tells the tail that the document gives to a form, whatever it is.
func behindTold(f api.Form) int {
	size, imm, is4 := 0, false, 0
	for n, slot := range f.Slots {
		if slot == api.SlotImm && !imm {
			imm = true
			if n < len(f.Shapes) {
				size = sized[f.Shapes[n]]
			}
		}
		if slot == api.SlotIs4 {
			is4 = 1
		}
	}
	return size + is4
}

// parted holds what is told of a form's parts against what the document says.
func parted(t *testing.T, f api.Form) {
	t.Helper()
	before := copied(f)
	if got, want := Tail(f), behindTold(f); got != want {
		t.Fatalf("Tail(%+v) = %d, not %d", f, got, want)
	}
	if got, want := Modrm(f), count(f, api.SlotRM) > 0; got != want {
		t.Fatalf("Modrm(%+v) = %v", f, got)
	}
	for slot := -2; slot <= 10; slot++ {
		want := -1
		for n := len(f.Slots) - 1; n >= 0; n-- {
			if f.Slots[n] == slot {
				want = n
			}
		}
		if got := Slot(f, slot); got != want {
			t.Fatalf("Slot(%+v, %d) = %d, not %d", f, slot, got, want)
		}
	}
	if !slices.Equal(f.Shapes, before.Shapes) || !slices.Equal(f.Slots, before.Slots) {
		t.Fatalf("%+v was %+v", f, before)
	}
}

// P12.1: the parts of forms that are valid, and of those that are not: too few shapes, too many, none that match.
func TestParts(t *testing.T) {
	for _, f := range bases() {
		parted(t, f)
	}
	for slots := range 9 * 9 * 9 {
		l := []int{slots % 9, slots / 9 % 9, slots / 81}
		for _, shape := range append(shapesAll(), 1<<32+api.ShImm1, -1<<32) {
			for size := range 4 {
				shapes := []int{shape, api.ShImm8, api.ShRel4, api.ShImm2}[:size]
				parted(t, api.Form{Shapes: shapes, Slots: l})
				parted(t, api.Form{Op: api.OpAdd, Shapes: shapes, Slots: l[:2], Digit: 99, Pre: -7})
			}
			parted(t, api.Form{Shapes: []int{api.ShImm4, shape, shape, 0, 0}, Slots: append(l, l...)})
		}
	}
}

// P12.1: the tail of each shape in SlotImm, alone and with SlotIs4, written out.
func TestTails(t *testing.T) {
	for _, w := range []struct{ shape, size int }{
		{api.ShImm1, 1}, {api.ShImmS, 1}, {api.ShRel1, 1}, {api.ShImm2, 2}, {api.ShImm4, 4}, {api.ShImmL, 4}, {api.ShRel4, 4}, {api.ShImm8, 8},
		{api.ShOne, 0}, {api.ShAL, 0}, {api.ShM, 0}, {api.ShM2, 0}, {api.ShR64, 0}, {0, 0}, {35, 0}, {-1, 0}, {1<<32 + api.ShImm1, 0},
	} {
		for _, l := range []struct {
			shapes, slots []int
			more          int
		}{
			{[]int{w.shape}, []int{api.SlotImm}, 0}, {[]int{w.shape, api.ShX}, []int{api.SlotImm, api.SlotIs4}, 1}, {[]int{api.ShX, w.shape}, []int{api.SlotIs4, api.SlotImm}, 1},
			{[]int{w.shape, api.ShImm8}, []int{api.SlotImm, api.SlotImm}, 0}, {[]int{w.shape, 0, 0}, []int{api.SlotImm, api.SlotIs4, api.SlotIs4}, 1}, {[]int{w.shape}, []int{api.SlotImm, api.SlotIs4}, 1},
			{[]int{api.ShImm8, w.shape}, []int{api.SlotReg, api.SlotImm}, 0},
		} {
			if got := Tail(api.Form{Shapes: l.shapes, Slots: l.slots}); got != w.size+l.more {
				t.Errorf("%v in %v: %d, not %d", l.shapes, l.slots, got, w.size+l.more)
			}
		}
		if got := Tail(api.Form{Shapes: []int{w.shape}, Slots: []int{api.SlotRM}}); got != 0 {
			t.Errorf("%d, not an immediate: %d", w.shape, got)
		}
		if got := Tail(api.Form{Shapes: []int{w.shape}, Slots: []int{api.SlotReg, api.SlotImm, api.SlotIs4}}); got != 1 {
			t.Errorf("%d, ahead of an immediate without a shape: %d", w.shape, got)
		}
	}
}

// P12.1: slots of any number, and as many as there may be.
func TestManySlots(t *testing.T) {
	for _, slot := range append(far(), 0, -1, 8) {
		f := api.Form{Slots: []int{api.SlotReg, slot, slot}}
		if n := Slot(f, slot); n != 1 {
			t.Errorf("Slot(%+v, %d) = %d", f, slot, n)
		}
		if n := Slot(api.Form{Slots: []int{1, 2, 3, 4, 5, 6, 7}}, slot); n != -1 {
			t.Errorf("%d: %d", slot, n)
		}
	}
	long := make([]int, 100000)
	long[90000], long[90001] = api.SlotImm, api.SlotRM
	f := api.Form{Op: api.OpAdd, Shapes: slices.Repeat([]int{api.ShImm4}, 100000), Slots: long}
	if Slot(f, api.SlotImm) != 90000 || !Modrm(f) || Tail(f) != 4 || Check(f) != api.ErrLong {
		t.Error(Slot(f, api.SlotImm), Modrm(f), Tail(f), Check(f))
	}
	if Slot(api.Form{}, 0) != -1 || Modrm(api.Form{}) || Tail(api.Form{}) != 0 {
		t.Error("the zero form")
	}
}

// P12.1, rule 4 of the document: what spare capacity holds does not count.
func TestSpareCapacity(t *testing.T) {
	whole := []int{api.SlotReg, api.SlotRM, api.SlotImm, api.SlotIs4, api.SlotReg}
	shapes := []int{api.ShX, api.ShXM16, api.ShImm1, api.ShX, api.ShX}
	f := api.Form{Op: api.OpAdd, Shapes: shapes[:0], Slots: whole[:1], Map: 1, Digit: -1}
	if Modrm(f) || Tail(f) != 0 || Slot(f, api.SlotRM) != -1 || Check(f) != api.ErrArg {
		t.Error(Modrm(f), Tail(f), Slot(f, api.SlotRM), Check(f))
	}
	f.Shapes, f.Slots = shapes[:2], whole[:2]
	if !Modrm(f) || Tail(f) != 0 || Check(f) != api.OK {
		t.Error(Modrm(f), Tail(f), Check(f))
	}
	if !slices.Equal(whole, []int{api.SlotReg, api.SlotRM, api.SlotImm, api.SlotIs4, api.SlotReg}) {
		t.Error(whole)
	}
}
