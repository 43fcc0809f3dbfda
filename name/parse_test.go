package name

import (
	"strings"
	"testing"
)

// mnemonics tells the mnemonic of each name and of each other name; P7.3: each name is that of one mnemonic.
func mnemonics(t *testing.T) map[string]int {
	t.Helper()
	m := map[string]int{}
	put := func(s string, op int) {
		if there, is := m[s]; is {
			t.Errorf("%q is both %d and %d", s, there, op)
		}
		m[s] = op
	}
	for _, r := range known() {
		put(r.name, r.op)
	}
	for _, begins := range beginnings() {
		for _, l := range conditions() {
			for _, ending := range l[1:] {
				put(begins+ending, m[begins+l[0]])
			}
		}
	}
	if len(m) != 322+3*14 {
		t.Errorf("%d names", len(m))
	}
	return m
}

// parsed compares what Parse answers with the mnemonic that has the text as its name.
func parsed(t *testing.T, m map[string]int, s string) {
	t.Helper()
	want, is := m[s]
	if op, ok := Parse(s); op != want || ok != is {
		t.Errorf("Parse(%q) = %d, %v, not %d, %v", s, op, ok, want, is)
	}
}

// P7.1, P7.3: all names and other names; the name of what is read is the name, or that with the condition's own.
func TestParse(t *testing.T) {
	for s, want := range mnemonics(t) {
		op, ok := Parse(s)
		if op != want || !ok {
			t.Errorf("Parse(%q) = %d, %v, not %d", s, op, ok, want)
		}
		if again, ok := Parse(Name(op)); again != want || !ok {
			t.Errorf("Parse(%q) = %d, %v, not %d", Name(op), again, ok, want)
		}
	}
}

// P7.1: some other names, each with the name that it is the same as.
func TestParseOther(t *testing.T) {
	for _, x := range []struct{ other, name string }{
		{"jc", "jb"}, {"jnae", "jb"}, {"jnb", "jae"}, {"jnc", "jae"}, {"jz", "je"}, {"jnz", "jne"}, {"jna", "jbe"}, {"jnbe", "ja"},
		{"jpe", "jp"}, {"jpo", "jnp"}, {"jnge", "jl"}, {"jnl", "jge"}, {"jng", "jle"}, {"jnle", "jg"},
		{"setc", "setb"}, {"setz", "sete"}, {"setpo", "setnp"}, {"setnle", "setg"},
		{"cmovnc", "cmovae"}, {"cmovnz", "cmovne"}, {"cmovpe", "cmovp"}, {"cmovng", "cmovle"},
	} {
		op, ok := Parse(x.other)
		if !ok || Name(op) != x.name {
			t.Errorf("Parse(%q) = %d, %v: %q, not %q", x.other, op, ok, Name(op), x.name)
		}
	}
}

// P7.1: texts that are no names.
func TestParseNone(t *testing.T) {
	for _, s := range []string{
		"", " ", "x", "j", "set", "cmov", "e", "z", "nz", "nge", "ne", "b",
		"jx", "jj", "jjz", "jez", "jze", "jnn", "jcc", "jcxz", "jecxz", "jrcxz", "jsete", "jmove", "setjz", "setcmovz", "setsetz", "cmovjz", "cmovcmovz", "cmovsetz", "cmov z", "j z",
		"ADD", "Add", "aDd", "JZ", "Jz", "jZ", "CMOVNGE", "Setz", "setZ",
		" add", "add ", "add or", "vfmadd231pd ", " vfmadd231pd", "j e", "add\n", "\tadd", "add\x00", "\x00", "add,", "add:", ".add",
		"sal", "loop", "iret", "retn", "retf", "int", "pause", "wait", "movabs", "pushq", "repne", "rep", "lock", "fld", "vmovq", "eax", "byte", "short",
		"\uff41dd", "\u0430dd", "\u017fub", "\u212a", "add\u0301", "\xff", "j\xff", "a\xe4d",
		names, names + " ", " " + names,
	} {
		if op, ok := Parse(s); op != 0 || ok {
			t.Errorf("Parse(%q) = %d, %v", s, op, ok)
		}
	}
	for _, s := range []string{strings.Repeat("add ", 100000), strings.Repeat("j", 100000), "j" + strings.Repeat("nz", 100000), "set" + strings.Repeat("\x00", 100000), strings.Repeat(" ", 100000)} {
		if op, ok := Parse(s); op != 0 || ok {
			t.Errorf("a long text: %d, %v", op, ok)
		}
	}
}

// P7.1, P7.3: each name with one byte more, less, or another one.
func TestParseNearly(t *testing.T) {
	m := mnemonics(t)
	const bytes = "abcdefghijklmnopqrstuvwxyz0123456789ADJZ _.,\n\x00\xff"
	for name := range m {
		for at := 0; at <= len(name); at++ {
			for i := range len(bytes) {
				parsed(t, m, name[:at]+bytes[i:i+1]+name[at:])
				if at < len(name) {
					parsed(t, m, name[:at]+bytes[i:i+1]+name[at+1:])
				}
			}
			if at < len(name) {
				parsed(t, m, name[:at]+name[at+1:])
			}
		}
	}
}

// P7.1: two names, one behind the other, as the document lists them and with j, set and cmov in front.
func TestParseTwo(t *testing.T) {
	m := mnemonics(t)
	k := known()
	for i, r := range k {
		if i > 0 {
			parsed(t, m, k[i-1].name+r.name)
			parsed(t, m, k[i-1].name+" "+r.name)
		}
		for _, begins := range beginnings() {
			parsed(t, m, begins+r.name)
			parsed(t, m, begins+" "+r.name)
		}
	}
}

// P7.1, P7.3: all texts of up to three letters, digits and spaces; j, set and cmov followed by up to three letters.
func TestParseShort(t *testing.T) {
	m := mnemonics(t)
	each(t, m, "", "abcdefghijklmnopqrstuvwxyz0123456789 ", 3)
	for _, begins := range beginnings() {
		each(t, m, begins, "abcdefghijklmnopqrstuvwxyz", 3)
	}
}

// each parses a text, and all that it becomes with up to so many of these bytes more.
func each(t *testing.T, m map[string]int, s, bytes string, more int) {
	t.Helper()
	parsed(t, m, s)
	if more == 0 {
		return
	}
	for i := range len(bytes) {
		each(t, m, s+bytes[i:i+1], bytes, more-1)
	}
}

// P7.3: names consist of small letters and digits, and begin with a letter; no two are the same.
func TestNames(t *testing.T) {
	seen := map[string]int{}
	for op := 1; op <= 322; op++ {
		name := Name(op)
		if other, is := seen[name]; is {
			t.Errorf("%d and %d are both %q", op, other, name)
		}
		seen[name] = op
		if strings.Trim(name, "abcdefghijklmnopqrstuvwxyz0123456789") != "" || name == "" || strings.IndexByte("abcdefghijklmnopqrstuvwxyz", name[0]) < 0 {
			t.Errorf("%d has the name %q", op, name)
		}
	}
}
