package shape

import (
	"slices"

	"linotype/api"
)

// rules tells of each rule for forms that are in their bounds whether this one keeps it.
func rules(f api.Form) []bool {
	digit, middle := f.Digit != noDigit, has(f, api.SlotReg)
	return []bool{
		len(f.Slots) == len(f.Shapes),
		f.Vex || plain(f),
		!f.Vex || vexed(f),
		!repeats(f.Slots),
		matches(f),
		!has(f, api.SlotCode) || f.Code%8 == 0 && !Modrm(f),
		!middle || !digit,
		// Without ModRM nothing goes to its middle field: so nothing does with SlotCode.
		Modrm(f) == (middle || digit),
		f.Map != 0 || !begins(f.Code),
	}
}

// plain tells whether a form may be one without VEX.
func plain(f api.Form) bool {
	return within(f.W, 0, 1) && f.L == 0 && !has(f, api.SlotV) && !has(f, api.SlotIs4)
}

// vexed tells whether a form may be one with VEX, which stands for one prefix at most.
func vexed(f api.Form) bool {
	return f.Map != 0 && slices.Contains([]int{0, api.PreSize, api.PreF2, api.PreF3}, f.Pre) && within(f.W, -1, 1) && within(f.L, 0, 1)
}

// repeats tells whether several operands go to a slot that has room for one.
func repeats(slots []int) bool {
	for n, slot := range slots {
		if slot != api.SlotFixed && slices.Contains(slots[:n], slot) {
			return true
		}
	}
	return false
}

// matches tells whether each operand of a shape may go to its slot.
func matches(f api.Form) bool {
	for n := range min(len(f.Slots), len(f.Shapes)) {
		if !match(f.Slots[n], f.Shapes[n]) {
			return false
		}
	}
	return true
}

// match tells whether an operand of a shape may go to a slot.
func match(slot, shape int) bool {
	switch slot {
	case api.SlotFixed:
		return within(shape, api.ShAL, api.ShOne)
	case api.SlotImm:
		return within(shape, api.ShImm1, api.ShRel4)
	case api.SlotReg, api.SlotV, api.SlotCode, api.SlotIs4:
		return within(shape, api.ShR8, api.ShY)
	case api.SlotRM:
		return within(shape, api.ShR8, api.ShM32) || shape == api.ShM2
	}
	return false
}

// begins tells whether a byte begins something else in the first map: another map, REX, a prefix, VEX.
func begins(code int) bool {
	switch code {
	case 0x0f, 0x66, 0xc4, 0xc5, 0xf2, 0xf3:
		return true
	}
	return within(code, 0x40, 0x4f)
}
