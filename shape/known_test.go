package shape

import (
	"math"
	"slices"
	"strconv"
	"strings"

	"linotype/api"
	"linotype/inst"
	"linotype/name"
	"linotype/reg"
)

// fitsTold tells by words what fits each shape, as the document's table has it.
var fitsTold = func() map[int][]string {
	all := map[int][]string{}
	for shape, text := range map[int]string{
		api.ShR8: "R8 R8H", api.ShR16: "R16", api.ShR32: "R32", api.ShR64: "R64", api.ShX: "X", api.ShY: "Y",
		api.ShRM8: "R8 R8H place1", api.ShRM16: "R16 place2", api.ShRM32: "R32 place4", api.ShRM64: "R64 place8",
		api.ShXM4: "X place4", api.ShXM8: "X place8", api.ShXM16: "X place16", api.ShYM32: "Y place32",
		api.ShM: "place0", api.ShM2: "place2", api.ShM4: "place4", api.ShM8: "place8", api.ShM16: "place16", api.ShM32: "place32",
		api.ShImm1: "imm8", api.ShImm2: "imm16", api.ShImm4: "imm32", api.ShImm8: "imm64",
		api.ShImmS: "small16 small32 small64", api.ShImmL: "half64", api.ShRel1: "near", api.ShRel4: "near far",
		api.ShAL: "al", api.ShAX: "ax", api.ShEAX: "eax", api.ShRAX: "rax", api.ShCL: "cl", api.ShOne: "one",
	} {
		all[shape] = strings.Fields(text)
	}
	return all
}()

// sized tells for the shapes of immediates and distances how many bytes they have.
var sized = map[int]int{
	api.ShImm1: 1, api.ShImmS: 1, api.ShRel1: 1, api.ShImm2: 2, api.ShImm4: 4, api.ShImmL: 4, api.ShRel4: 4, api.ShImm8: 8,
}

// slotted tells which shapes each slot matches.
var slotted = func() map[int][]int {
	registers := []int{api.ShR8, api.ShR16, api.ShR32, api.ShR64, api.ShX, api.ShY}
	places := []int{api.ShRM8, api.ShRM16, api.ShRM32, api.ShRM64, api.ShXM4, api.ShXM8, api.ShXM16, api.ShYM32, api.ShM, api.ShM2, api.ShM4, api.ShM8, api.ShM16, api.ShM32}
	return map[int][]int{
		api.SlotReg: registers, api.SlotV: registers, api.SlotCode: registers, api.SlotIs4: registers,
		api.SlotRM:    slices.Concat(registers, places),
		api.SlotImm:   {api.ShImm1, api.ShImmS, api.ShImm2, api.ShImm4, api.ShImmL, api.ShImm8, api.ShRel1, api.ShRel4},
		api.SlotFixed: {api.ShAL, api.ShAX, api.ShEAX, api.ShRAX, api.ShCL, api.ShOne},
	}
}()

// count tells how many operands go to a slot.
func count(f api.Form, slot int) int {
	n := 0
	for _, s := range f.Slots {
		if s == slot {
			n++
		}
	}
	return n
}

// told tells what the document says of a form: it goes through the sentences one by one.
func told(f api.Form) api.Errno {
	switch {
	case name.Name(f.Op) == "":
		return api.ErrMissing
	case len(f.Shapes) > 4, len(f.Slots) > 4:
		return api.ErrLong
	case f.Pre < 0, f.Pre > 5, f.Map < 0, f.Map > 3, f.Code < 0, f.Code > 255, f.Digit < -1, f.Digit > 7:
		return api.ErrRange
	case len(f.Shapes) != len(f.Slots):
		return api.ErrArg
	}
	wrong := false
	if f.Vex {
		wrong = f.Map == 0 || f.Pre == 3 || f.Pre == 5 || f.W < -1 || f.W > 1 || f.L < 0 || f.L > 1
	} else {
		wrong = f.W != 0 && f.W != 1 || f.L != 0 || count(f, api.SlotV) > 0 || count(f, api.SlotIs4) > 0
	}
	for n, slot := range f.Slots {
		wrong = wrong || slot != api.SlotFixed && count(f, slot) > 1 || !slices.Contains(slotted[slot], f.Shapes[n])
	}
	digit, middle, low := f.Digit >= 0, count(f, api.SlotReg) > 0, count(f, api.SlotRM) > 0
	if count(f, api.SlotCode) > 0 {
		wrong = wrong || f.Code&1 != 0 || f.Code&2 != 0 || f.Code&4 != 0 || middle || low || digit
	}
	if middle && digit || low && !middle && !digit || !low && (middle || digit) {
		wrong = true
	}
	if f.Map == 0 {
		wrong = wrong || slices.Contains([]int{15, 64, 65, 66, 67, 68, 69, 70, 71, 72, 73, 74, 75, 76, 77, 78, 79, 102, 196, 197, 242, 243}, f.Code)
	}
	if wrong {
		return api.ErrArg
	}
	return api.OK
}

// value tells the number from 0, or from half of all below it, on that is congruent to n modulo 2 to the power of bits.
func value(n, bits int, signed bool) int {
	if bits == 64 {
		return n
	}
	n = (n%(1<<bits) + 1<<bits) % (1 << bits)
	if signed && n >= 1<<(bits-1) {
		n -= 1 << bits
	}
	return n
}

// words tells what an operand of a valid instruction is.
func words(a api.Arg, bits int, signed bool) []string {
	switch a.Kind {
	case api.ArgReg:
		return []string{[]string{"", "R8", "R8H", "R16", "R32", "R64", "X", "Y"}[a.R.Class], reg.Name(a.R)}
	case api.ArgMem:
		return []string{"place" + strconv.Itoa(a.M.Size)}
	case api.ArgRel:
		if int(int8(a.N)) == a.N {
			return []string{"near"}
		}
		return []string{"far"}
	}
	l := []string{"imm" + strconv.Itoa(bits)}
	n := value(a.N, bits, signed)
	if n == 1 {
		l = append(l, "one")
	}
	if int(int8(n)) == n {
		l = append(l, "small"+strconv.Itoa(bits))
	}
	if int(int32(n)) == n {
		l = append(l, "half"+strconv.Itoa(bits))
	}
	return l
}

// fit tells whether each operand fits its shape, one by one, as the document says.
func fit(f api.Form, i api.Inst) bool {
	if told(f) != api.OK || inst.Check(i) != api.OK || f.Op != i.Op || len(f.Shapes) != len(i.Args) {
		return false
	}
	bits, signed := inst.Bits(i)
	for n, a := range i.Args {
		is := words(a, bits, signed)
		if !slices.ContainsFunc(fitsTold[f.Shapes[n]], func(s string) bool { return slices.Contains(is, s) }) {
			return false
		}
	}
	return true
}

// far tells numbers far from those of forms: those that a narrower kind of number would take for one are among them.
func far() []int {
	l := []int{math.MinInt, math.MinInt + 1, math.MaxInt - 1, math.MaxInt}
	for _, width := range []int{8, 16, 31, 32, 33, 62} {
		for n := -2; n <= 8; n++ {
			l = append(l, 1<<width+n, -1<<width+n)
		}
	}
	return l
}

// shapesAll tells all shapes, and numbers around them that are none.
func shapesAll() []int {
	var l []int
	for n := -2; n <= 37; n++ {
		l = append(l, n)
	}
	return l
}

// copied tells a form with slices of its own, filled up to their capacity.
func copied(f api.Form) api.Form {
	f.Shapes, f.Slots = slices.Clip(slices.Clone(f.Shapes)), slices.Clip(slices.Clone(f.Slots))
	return f
}
