package reg

import (
	"math"
	"testing"

	"linotype/api"
)

// known tells all registers with their names, written out as the document has them, by class.
func known() map[api.Reg]string {
	rows := map[int][]string{
		api.R8:  {"al", "cl", "dl", "bl", "spl", "bpl", "sil", "dil", "r8b", "r9b", "r10b", "r11b", "r12b", "r13b", "r14b", "r15b"},
		api.R8H: {4: "ah", 5: "ch", 6: "dh", 7: "bh"},
		api.R16: {"ax", "cx", "dx", "bx", "sp", "bp", "si", "di", "r8w", "r9w", "r10w", "r11w", "r12w", "r13w", "r14w", "r15w"},
		api.R32: {"eax", "ecx", "edx", "ebx", "esp", "ebp", "esi", "edi", "r8d", "r9d", "r10d", "r11d", "r12d", "r13d", "r14d", "r15d"},
		api.R64: {"rax", "rcx", "rdx", "rbx", "rsp", "rbp", "rsi", "rdi", "r8", "r9", "r10", "r11", "r12", "r13", "r14", "r15"},
		api.X:   {"xmm0", "xmm1", "xmm2", "xmm3", "xmm4", "xmm5", "xmm6", "xmm7", "xmm8", "xmm9", "xmm10", "xmm11", "xmm12", "xmm13", "xmm14", "xmm15"},
		api.Y:   {"ymm0", "ymm1", "ymm2", "ymm3", "ymm4", "ymm5", "ymm6", "ymm7", "ymm8", "ymm9", "ymm10", "ymm11", "ymm12", "ymm13", "ymm14", "ymm15"},
		api.RIP: {"rip"},
	}
	m := map[api.Reg]string{}
	for class, l := range rows {
		for n, name := range l {
			if name != "" {
				m[api.Reg{Class: class, N: n}] = name
			}
		}
	}
	return m
}

// tried tells registers and much that is none: around all classes and numbers, and far away.
func tried() []api.Reg {
	var classes, numbers []int
	for i := -20; i <= 40; i++ {
		classes, numbers = append(classes, i), append(numbers, i)
	}
	far := []int{math.MinInt, math.MinInt + 1, math.MaxInt - 1, math.MaxInt}
	for _, bits := range []int{8, 16, 31, 32, 63} {
		for n := -1; n <= 8; n++ {
			far = append(far, 1<<bits+n, -1<<bits+n)
		}
	}
	classes, numbers = append(classes, far...), append(numbers, far...)
	var l []api.Reg
	for _, c := range classes {
		for _, n := range numbers {
			l = append(l, api.Reg{Class: c, N: n})
		}
	}
	return l
}

// P3.1: which registers there are, with their names.
func TestValidAndName(t *testing.T) {
	k := known()
	if len(k) != 16*6+4+1 {
		t.Fatal(len(k))
	}
	for _, r := range tried() {
		name, is := k[r]
		if Valid(r) != is || Name(r) != name {
			t.Errorf("%v: %v, %q, not %q", r, Valid(r), Name(r), name)
		}
	}
}

// P3.1: all of a class, by rising numbers.
func TestAll(t *testing.T) {
	k := known()
	total := 0
	for class := range 9 {
		last := -1
		for _, r := range All(class) {
			if _, is := k[r]; !is || r.Class != class || r.N <= last {
				t.Errorf("All(%d) has %v behind %d", class, r, last)
			}
			last = r.N
			total++
		}
	}
	if total != len(k) {
		t.Errorf("%d registers in all classes", total)
	}
	for _, class := range []int{0, -1, -8, 9, 10, 256 + 1, 1<<32 + 1, math.MinInt, math.MaxInt} {
		if l := All(class); len(l) != 0 {
			t.Errorf("All(%d) = %v", class, l)
		}
	}
}

// P3.1: each answer of All is new memory, with what it has room for.
func TestAllIsNew(t *testing.T) {
	for class := api.R8; class <= api.RIP; class++ {
		l := All(class)
		l = l[:cap(l)]
		for i := range l {
			l[i] = api.Reg{Class: -7, N: -7}
		}
		for _, r := range All(class) {
			if !Valid(r) || r.Class != class {
				t.Errorf("All(%d) has %v", class, r)
			}
		}
	}
}

// parts tells what P3.2 asks of a register, by the document's table.
type parts struct {
	size, low, high int
	needs, bars     bool
}

// seen tells what the package answers of a register.
func seen(r api.Reg) parts {
	return parts{Size(r), Low(r), High(r), Needs(r), Bars(r)}
}

// P3.2: the sizes and the parts of all registers; of what is none, nothing.
func TestParts(t *testing.T) {
	k := known()
	sizes := [...]int{api.R8: 1, api.R8H: 1, api.R16: 2, api.R32: 4, api.R64: 8, api.X: 16, api.Y: 32, api.RIP: 8}
	for _, r := range tried() {
		var want parts
		if _, is := k[r]; is {
			want = parts{size: sizes[r.Class], low: r.N, bars: r.Class == api.R8H}
			if r.N >= 8 {
				want.low, want.high = r.N-8, 1
			}
			switch k[r] {
			case "spl", "bpl", "sil", "dil":
				want.needs = true
			}
		}
		if got := seen(r); got != want {
			t.Errorf("%v: %v, not %v", r, got, want)
		}
	}
}

// P3.1, P3.2: the examples of the chapter.
func TestExamples(t *testing.T) {
	for _, x := range []struct {
		r    api.Reg
		name string
	}{{api.Reg{Class: api.R8, N: 5}, "bpl"}, {api.Reg{Class: api.R8H, N: 5}, "ch"}, {api.Reg{Class: api.X, N: 12}, "xmm12"}, {api.Reg{Class: api.R8H, N: 3}, ""}, {api.Reg{Class: api.RIP, N: 1}, ""}, {api.Reg{}, ""}} {
		if got := Name(x.r); got != x.name {
			t.Errorf("Name(%v) = %q", x.r, got)
		}
	}
	for _, x := range []struct {
		s  string
		r  api.Reg
		is bool
	}{{"R9D", api.Reg{Class: api.R32, N: 9}, true}, {"r16", api.Reg{}, false}, {"xmm01", api.Reg{}, false}, {"rip", api.Reg{Class: api.RIP, N: 0}, true}} {
		if r, is := Parse(x.s); r != x.r || is != x.is {
			t.Errorf("Parse(%s) = %v, %v", x.s, r, is)
		}
	}
	if Size(api.Reg{Class: api.Y, N: 3}) != 32 || Low(api.Reg{Class: api.R64, N: 13}) != 5 || High(api.Reg{Class: api.R64, N: 13}) != 1 {
		t.Error("Size, Low, High")
	}
	if !Needs(api.Reg{Class: api.R8, N: 6}) || Needs(api.Reg{Class: api.R8, N: 9}) || !Bars(api.Reg{Class: api.R8H, N: 4}) {
		t.Error("Needs, Bars")
	}
}

// P3.3: no two registers have the same name; no two of one class the same parts.
func TestApart(t *testing.T) {
	type place struct{ class, low, high int }
	byName := map[string]api.Reg{}
	byParts := map[place]api.Reg{}
	for class := api.R8; class <= api.RIP; class++ {
		for _, r := range All(class) {
			p := place{class, Low(r), High(r)}
			if other, is := byName[Name(r)]; is {
				t.Errorf("%v and %v are both %s", r, other, Name(r))
			}
			if other, is := byParts[p]; is {
				t.Errorf("%v and %v both have %v", r, other, p)
			}
			byName[Name(r)], byParts[p] = r, r
		}
	}
	if len(byName) != len(known()) || len(byParts) != len(known()) {
		t.Errorf("%d names, %d parts", len(byName), len(byParts))
	}
}
