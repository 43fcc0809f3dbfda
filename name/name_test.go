package name

import (
	"math"
	"testing"

	"linotype/api"
	"linotype/cond"
)

// others tells numbers of which there is no mnemonic: around all, and far away.
func others() []int {
	l := []int{0, math.MinInt, math.MinInt + 1, math.MaxInt - 1, math.MaxInt}
	for n := 1; n <= 1000; n++ {
		l = append(l, -n, 322+n)
	}
	for _, bits := range []int{16, 31, 32, 62, 63} {
		for n := range 400 {
			l = append(l, 1<<bits+n, -1<<bits+n, 1<<bits-1-n)
		}
	}
	return l
}

// P7.1: the number and the name of each mnemonic, in the document's order; each name is read as it.
func TestName(t *testing.T) {
	k := known()
	if len(k) != 322 || api.Ops != 322 {
		t.Fatal(len(k), api.Ops)
	}
	for i, r := range k {
		if r.op != i+1 {
			t.Errorf("%s is %d, not %d", r.name, r.op, i+1)
		}
		if !Valid(i+1) || Name(i+1) != r.name {
			t.Errorf("%d: %v, %q, not %q", i+1, Valid(i+1), Name(i+1), r.name)
		}
		if op, ok := Parse(r.name); op != i+1 || !ok {
			t.Errorf("Parse(%q) = %d, %v, not %d", r.name, op, ok, i+1)
		}
	}
}

// P7.1, P7.2: of what is no mnemonic's number, nothing.
func TestNone(t *testing.T) {
	for _, op := range others() {
		if Valid(op) || Name(op) != "" {
			t.Errorf("%d: %v, %q", op, Valid(op), Name(op))
		}
		if n, ok := Cond(op); n != 0 || ok {
			t.Errorf("Cond(%d) = %d, %v", op, n, ok)
		}
		if bits, signed := Imm(op); bits != 0 || signed {
			t.Errorf("Imm(%d) = %d, %v", op, bits, signed)
		}
	}
}

// P7.2: the conditions of all mnemonics; there is one of each that begins alike and a condition.
func TestCond(t *testing.T) {
	want := map[string]int{}
	for _, begins := range beginnings() {
		for n, l := range conditions() {
			want[begins+l[0]] = n
		}
	}
	found := 0
	for _, r := range known() {
		n, is := want[r.name]
		if got, ok := Cond(r.op); got != n || ok != is {
			t.Errorf("Cond of %s = %d, %v, not %d, %v", r.name, got, ok, n, is)
		}
		if is {
			found++
		}
	}
	if found != 48 {
		t.Errorf("%d of 48", found)
	}
}

// P7.2: the sixteen from each of jo, seto and cmovo on, with the names that layer 4 gives their conditions.
func TestCondNames(t *testing.T) {
	for i, first := range []int{api.OpJo, api.OpSeto, api.OpCmovo} {
		for n := range 16 {
			if got, ok := Cond(first + n); got != n || !ok || Name(first+n) != beginnings()[i]+cond.Name(n) {
				t.Errorf("Cond(%d) = %d, %v; it is %s", first+n, got, ok, Name(first+n))
			}
		}
	}
}

// immediate is how a mnemonic's immediates are.
type immediate struct {
	bits   int
	signed bool
}

// P7.2: the immediates of all mnemonics.
func TestImm(t *testing.T) {
	special := map[string]immediate{"push": {64, true}, "ret": {16, false}}
	for _, name := range []string{"add", "or", "adc", "sbb", "and", "sub", "xor", "cmp", "mov", "test", "imul"} {
		special[name] = immediate{0, true}
	}
	for _, r := range known() {
		want, is := special[r.name]
		if !is {
			want = immediate{8, false}
		}
		if bits, signed := Imm(r.op); bits != want.bits || signed != want.signed {
			t.Errorf("Imm of %s = %d, %v, not %v", r.name, bits, signed, want)
		}
	}
}

// P7.1, P7.2: the examples of the chapter.
func TestExamples(t *testing.T) {
	if Name(1) != "add" || Name(9) != "mov" || Name(0) != "" {
		t.Error("Name")
	}
	for s, want := range map[string]int{"lea": 12, "jz": 72, "cmovnge": 112} {
		if op, ok := Parse(s); op != want || !ok {
			t.Errorf("Parse(%s) = %d, %v", s, op, ok)
		}
	}
	if n, ok := Cond(72); n != 4 || !ok {
		t.Error("Cond(72)")
	}
	if n, ok := Cond(1); n != 0 || ok {
		t.Error("Cond(1)")
	}
	for op, want := range map[int]immediate{1: {0, true}, api.OpPush: {64, true}, api.OpRet: {16, false}, api.OpShl: {8, false}} {
		if bits, signed := Imm(op); bits != want.bits || signed != want.signed {
			t.Errorf("Imm(%d) = %d, %v", op, bits, signed)
		}
	}
}
