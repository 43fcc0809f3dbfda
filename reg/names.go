package reg

import (
	"strings"

	"linotype/api"
)

// The names of each class, in the order of their numbers.
const (
	namesR8  = "al cl dl bl spl bpl sil dil r8b r9b r10b r11b r12b r13b r14b r15b"
	namesR8H = "ah ch dh bh"
	namesR16 = "ax cx dx bx sp bp si di r8w r9w r10w r11w r12w r13w r14w r15w"
	namesR32 = "eax ecx edx ebx esp ebp esi edi r8d r9d r10d r11d r12d r13d r14d r15d"
	namesR64 = "rax rcx rdx rbx rsp rbp rsi rdi r8 r9 r10 r11 r12 r13 r14 r15"
	namesX   = "xmm0 xmm1 xmm2 xmm3 xmm4 xmm5 xmm6 xmm7 xmm8 xmm9 xmm10 xmm11 xmm12 xmm13 xmm14 xmm15"
	namesY   = "ymm0 ymm1 ymm2 ymm3 ymm4 ymm5 ymm6 ymm7 ymm8 ymm9 ymm10 ymm11 ymm12 ymm13 ymm14 ymm15"
	namesRIP = "rip"
)

// names tells the names of a class, the first register's first.
func names(class int) []string {
	return strings.Fields(text(class))
}

// text tells the names of a class in one text.
func text(class int) string {
	switch class {
	case api.R8:
		return namesR8
	case api.R8H:
		return namesR8H
	case api.R16:
		return namesR16
	case api.R32:
		return namesR32
	case api.R64:
		return namesR64
	case api.X:
		return namesX
	case api.Y:
		return namesY
	case api.RIP:
		return namesRIP
	}
	return ""
}

// same tells whether a text is a name, whose letters are small.
// It goes byte by byte: strings.ToLower and strings.EqualFold also take some letters outside A to Z for small ones.
func same(s, name string) bool {
	if len(s) != len(name) {
		return false
	}
	for i := range len(s) {
		if small(s[i]) != name[i] {
			return false
		}
	}
	return true
}

// small tells a byte, a capital letter as a small one.
func small(c byte) byte {
	if c >= 'A' && c <= 'Z' {
		return c + 'a' - 'A'
	}
	return c
}
