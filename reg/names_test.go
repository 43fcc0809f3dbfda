package reg

import (
	"strings"
	"testing"

	"linotype/api"
)

// registers tells the register of each name.
func registers() map[string]api.Reg {
	m := map[string]api.Reg{}
	for r, name := range known() {
		m[name] = r
	}
	return m
}

// parsed compares what Parse answers with the register that has the text as its name; small is the text with small letters for A to Z.
func parsed(t *testing.T, m map[string]api.Reg, s, small string) {
	t.Helper()
	want, is := m[small]
	if got, ok := Parse(s); got != want || ok != is {
		t.Errorf("Parse(%q) = %v, %v, not %v, %v", s, got, ok, want, is)
	}
}

// lowered tells a text with small letters for A to Z, all other bytes as they are.
func lowered(s string) string {
	b := []byte(s)
	for i, c := range b {
		if at := strings.IndexByte("ABCDEFGHIJKLMNOPQRSTUVWXYZ", c); at >= 0 {
			b[i] = "abcdefghijklmnopqrstuvwxyz"[at]
		}
	}
	return string(b)
}

// P3.1, P3.3: each name, with its letters small or capital in all ways, is its register.
func TestParseNames(t *testing.T) {
	m := registers()
	for name, r := range m {
		for caps := range 1 << len(name) {
			b := []byte(name)
			for i := range b {
				if caps>>i&1 == 1 {
					b[i] = strings.ToUpper(name)[i]
				}
			}
			if got, ok := Parse(string(b)); got != r || !ok {
				t.Errorf("Parse(%q) = %v, %v", b, got, ok)
			}
		}
		if Name(r) != name {
			t.Errorf("Name(%v) = %q", r, Name(r))
		}
	}
}

// P3.1: texts that are nearly names.
func TestParseNone(t *testing.T) {
	for _, s := range []string{
		"", " ", "r", "x", "xmm", "ymm", "xmm01", "xmm16", "xmm00", "xmm-1", "xmm+1", "xmm1x", "ymm16", "ymm015", "zmm0", "mm0",
		"r0", "r1", "r7", "r16", "r08", "r8l", "r8bb", "r7b", "r16d", "r9q", "r1d", "r8 b",
		"ip", "eip", "rip0", "ripl", "spl0", "sph", "ssp", "esl", "rsil", "eal", "rah", "st0", "cs", "ds", "cr0",
		" al", "al ", "al\n", "\tal", "al cl", "ah ch dh bh", "al\x00", "\x00", "a l",
		namesR8, namesRIP + " ", "al,", "[rax]", "rax:",
		// Letters that turn into those of names, where all letters are turned and not only A to Z.
		"s\u0130l", "S\u0130L", "r\u0130p", "\u017fil", "\u017fp", "R\u0131P", "\u212ax", "\uff41\uff4c", "\u0430x", "r\u0668", "e\u00e3x",
		// Bytes that differ from a letter by what a capital one differs from a small one.
		"\x01\x0c", "r\x18", "r\x18b", "xmm\x10", "r\x12\x10", "a\xec", "\xe1l", "A\x8c", "rax\x80",
	} {
		if r, ok := Parse(s); ok || r != (api.Reg{}) {
			t.Errorf("Parse(%q) = %v, %v", s, r, ok)
		}
	}
	for _, s := range []string{strings.Repeat("al", 100000), "rax" + strings.Repeat(" ", 100000)} {
		if r, ok := Parse(s); ok || r != (api.Reg{}) {
			t.Errorf("a long text: %v, %v", r, ok)
		}
	}
}

// P3.1, P3.3: each name with one byte more, less, or another one.
func TestParseNearly(t *testing.T) {
	m := registers()
	for name := range m {
		for at := 0; at <= len(name); at++ {
			for c := range 256 {
				one := string([]byte{byte(c)})
				with := name[:at] + one + name[at:]
				parsed(t, m, with, lowered(with))
				if at < len(name) {
					other := name[:at] + one + name[at+1:]
					parsed(t, m, other, lowered(other))
				}
			}
			if at < len(name) {
				less := name[:at] + name[at+1:]
				parsed(t, m, less, less)
			}
		}
	}
}

// P3.3: all texts of up to three small letters, digits and spaces, and of up to five of some bytes that names have.
func TestParseShort(t *testing.T) {
	m := registers()
	parsed(t, m, "", "")
	each(t, m, "", "abcdefghijklmnopqrstuvwxyz0123456789 ", 3)
	each(t, m, "", "acmbr0158 ", 5)
}

// each parses all texts that a text becomes with up to so many of these bytes more.
func each(t *testing.T, m map[string]api.Reg, s, bytes string, more int) {
	t.Helper()
	if more == 0 {
		return
	}
	for i := range len(bytes) {
		longer := s + bytes[i:i+1]
		parsed(t, m, longer, longer)
		each(t, m, longer, bytes, more-1)
	}
}
