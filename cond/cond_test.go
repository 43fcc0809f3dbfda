package cond

import (
	"math"
	"slices"
	"strings"
	"testing"

	"linotype/api"
)

// known tells all conditions' names, written out as the document has them.
func known() []string {
	return []string{"o", "no", "b c nae", "ae nb nc", "e z", "ne nz", "be na", "a nbe", "s", "ns", "p pe", "np po", "l nge", "ge nl", "le ng", "g nle"}
}

// others tells numbers of which there is no condition.
func others() []int {
	l := []int{math.MinInt, math.MinInt + 1, math.MaxInt - 1, math.MaxInt}
	for n := 1; n <= 300; n++ {
		l = append(l, -n, 15+n)
	}
	for _, bits := range []int{8, 16, 31, 32, 62} {
		for n := range 17 {
			l = append(l, 1<<bits+n, -1<<bits+n)
		}
	}
	return l
}

// P4.1: the names of all conditions, in order, and of what is none.
func TestNames(t *testing.T) {
	for n, line := range known() {
		want := strings.Fields(line)
		if got := Names(n); !slices.Equal(got, want) {
			t.Errorf("Names(%d) = %q, not %q", n, got, want)
		}
		if Name(n) != want[0] {
			t.Errorf("Name(%d) = %q, not %q", n, Name(n), want[0])
		}
	}
	for _, n := range others() {
		if len(Names(n)) != 0 || Name(n) != "" {
			t.Errorf("%d: %q, %q", n, Names(n), Name(n))
		}
	}
}

// P4.1: each answer of Names is new memory, with what it has room for.
func TestNamesAreNew(t *testing.T) {
	for n, line := range known() {
		l := Names(n)
		l = l[:cap(l)]
		for i := range l {
			l[i] = "x"
		}
		if got := Names(n); strings.Join(got, " ") != line {
			t.Errorf("Names(%d) = %q", n, got)
		}
		if got, ok := Parse(strings.Fields(line)[0]); got != n || !ok {
			t.Errorf("Parse(%q) = %d, %v", line, got, ok)
		}
	}
}

// conditionOf tells the condition of each name; P4.3: each name is that of one condition.
func conditionOf(t *testing.T) map[string]int {
	t.Helper()
	m := map[string]int{}
	for n, line := range known() {
		for _, name := range strings.Fields(line) {
			if other, there := m[name]; there {
				t.Errorf("%q is both %d and %d", name, other, n)
			}
			m[name] = n
		}
	}
	return m
}

// parsed compares what Parse answers with the condition that has the text as its name.
func parsed(t *testing.T, m map[string]int, s string) {
	t.Helper()
	want, there := m[s]
	if got, ok := Parse(s); got != want || ok != there {
		t.Errorf("Parse(%q) = %d, %v, not %d, %v", s, got, ok, want, there)
	}
}

// P4.1, P4.3: all texts of up to three small or capital letters, spaces and digits, and all texts of up to four bytes of some that names have.
func TestParse(t *testing.T) {
	m := conditionOf(t)
	each(t, m, "", "abcdefghijklmnopqrstuvwxyzABCDEFGHIJKLMNOPQRSTUVWXYZ 0123456789_,\x00\xff", 3)
	each(t, m, "", "abcegnloszp ", 4)
}

// each parses a text, and all that it becomes with up to so many of these bytes more.
func each(t *testing.T, m map[string]int, s, bytes string, more int) {
	t.Helper()
	parsed(t, m, s)
	if more == 0 {
		return
	}
	for i := range len(bytes) {
		each(t, m, s+bytes[i:i+1], bytes, more-1)
	}
}

// P4.1: texts that are no names.
func TestParseNone(t *testing.T) {
	for _, s := range []string{"", "x", "je", "jnge", "setb", "cmovo", "E", "NE", "Nge", "e ", " e", "e z", "b c nae", "b,c", "nn", "nnae", "cc", "ecxz", "pp", "always", "\u212a", strings.Repeat("n", 100000), "nge" + strings.Repeat("\x00", 100000)} {
		if n, ok := Parse(s); n != 0 || ok {
			t.Errorf("Parse(%q) = %d, %v", s, n, ok)
		}
	}
}

// P4.2, P4.3: the opposite ones, and the opposite of the opposite.
func TestNot(t *testing.T) {
	opposite := []int{1, 0, 3, 2, 5, 4, 7, 6, 9, 8, 11, 10, 13, 12, 15, 14}
	for n, want := range opposite {
		if Not(n) != want || Not(Not(n)) != n {
			t.Errorf("Not(%d) = %d, Not of it %d", n, Not(n), Not(Not(n)))
		}
	}
	for _, n := range others() {
		if Not(n) != -1 {
			t.Errorf("Not(%d) = %d", n, Not(n))
		}
	}
}

// P4.2: the swapped ones.
func TestSwap(t *testing.T) {
	m := conditionOf(t)
	swapped := map[string]string{"b": "a", "ae": "be", "be": "ae", "a": "b", "l": "g", "ge": "le", "le": "ge", "g": "l"}
	for n, line := range known() {
		want := n
		if other, there := swapped[strings.Fields(line)[0]]; there {
			want = m[other]
		}
		if Swap(n) != want {
			t.Errorf("Swap(%d) = %d, not %d", n, Swap(n), want)
		}
	}
	for _, n := range others() {
		if Swap(n) != -1 {
			t.Errorf("Swap(%d) = %d", n, Swap(n))
		}
	}
}

// allFlags tells all thirty-two.
func allFlags() []api.Flags {
	var l []api.Flags
	for i := range 32 {
		l = append(l, api.Flags{C: i&1 != 0, Z: i&2 != 0, S: i&4 != 0, O: i&8 != 0, P: i&16 != 0})
	}
	return l
}

// holding tells which conditions hold, as the document's table has it, line by line.
func holding(f api.Flags) []bool {
	return []bool{
		f.O, !f.O,
		f.C, !f.C,
		f.Z, !f.Z,
		f.C || f.Z, !f.C && !f.Z,
		f.S, !f.S,
		f.P, !f.P,
		f.S != f.O, f.S == f.O,
		f.Z || f.S != f.O, !f.Z && f.S == f.O,
	}
}

// P4.2, P4.3: which conditions hold for all flags; exactly one of a condition and its opposite; of what is none, none.
func TestHolds(t *testing.T) {
	for _, f := range allFlags() {
		for n, want := range holding(f) {
			if Holds(n, f) != want {
				t.Errorf("Holds(%d, %v) = %v", n, f, Holds(n, f))
			}
			if Holds(n, f) == Holds(Not(n), f) {
				t.Errorf("%d and its opposite for %v: both %v", n, f, want)
			}
		}
		for _, n := range others() {
			if Holds(n, f) {
				t.Errorf("Holds(%d, %v)", n, f)
			}
		}
	}
}

// compared tells the flags of a comparison of two bytes: those of a - b.
func compared(a, b uint8) api.Flags {
	d := a - b
	signed := int(int8(a)) - int(int8(b))
	p := true
	for i := range 8 {
		p = p != (d>>i&1 == 1)
	}
	return api.Flags{C: a < b, Z: d == 0, S: d >= 128, O: signed < -128 || signed > 127, P: p}
}

// P4.4: a swapped condition holds exactly if the condition holds of the two in the opposite order; of all pairs of bytes.
// It also holds exactly if the numbers are in the order that its name says.
func TestCompared(t *testing.T) {
	m := conditionOf(t)
	for x := range 65536 {
		a, b := uint8(x>>8), uint8(x)
		sa, sb := int8(a), int8(b)
		ordered := map[string]bool{"e": a == b, "ne": a != b, "b": a < b, "ae": a >= b, "be": a <= b, "a": a > b, "l": sa < sb, "ge": sa >= sb, "le": sa <= sb, "g": sa > sb}
		for name, want := range ordered {
			n := m[name]
			if Holds(n, compared(a, b)) != want || Holds(Swap(n), compared(b, a)) != want {
				t.Fatalf("%d %s %d: %v, %v", a, name, b, Holds(n, compared(a, b)), Holds(Swap(n), compared(b, a)))
			}
		}
	}
}

// P4.1, P4.2: the examples of the chapter.
func TestExamples(t *testing.T) {
	if Name(4) != "e" || !slices.Equal(Names(2), []string{"b", "c", "nae"}) {
		t.Error("Name, Names")
	}
	if n, ok := Parse("nge"); n != 12 || !ok {
		t.Error("Parse(nge)")
	}
	if n, ok := Parse("x"); n != 0 || ok {
		t.Error("Parse(x)")
	}
	if Not(4) != 5 || Not(5) != 4 || Not(16) != -1 || Swap(2) != 7 || Swap(12) != 15 || Swap(4) != 4 {
		t.Error("Not, Swap")
	}
	if !Holds(6, api.Flags{Z: true}) || !Holds(12, api.Flags{S: true}) || !Holds(15, api.Flags{}) {
		t.Error("Holds")
	}
}
