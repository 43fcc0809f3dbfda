package name

import (
	"strings"

	"linotype/api"
)

// names are the mnemonics' names, in the order of their numbers, with one space between each two.
const names = "add or adc sbb and sub xor cmp mov test " +
	"xchg lea movzx movsx movsxd imul inc dec neg not " +
	"mul div idiv rol ror rcl rcr shl shr sar " +
	"shld shrd bswap xadd cmpxchg bt bts btr btc bsf " +
	"bsr cbw cwde cdqe cwd cdq cqo push pop nop " +
	"ret leave call jmp int3 syscall ud2 hlt clc stc " +
	"cmc cld std lahf sahf cpuid rdtsc jo jno jb " +
	"jae je jne jbe ja js jns jp jnp jl " +
	"jge jle jg seto setno setb setae sete setne setbe " +
	"seta sets setns setp setnp setl setge setle setg cmovo " +
	"cmovno cmovb cmovae cmove cmovne cmovbe cmova cmovs cmovns cmovp " +
	"cmovnp cmovl cmovge cmovle cmovg popcnt lzcnt tzcnt andn bextr " +
	"blsi blsmsk blsr bzhi pdep pext mulx rorx sarx shlx " +
	"shrx adcx adox movbe crc32 movaps movups movapd movupd movdqa " +
	"movdqu movss movsd movd movq addps addpd addss addsd subps " +
	"subpd subss subsd mulps mulpd mulss mulsd divps divpd divss " +
	"divsd minps minpd minss minsd maxps maxpd maxss maxsd sqrtps " +
	"sqrtpd sqrtss sqrtsd andps andpd andnps andnpd orps orpd xorps " +
	"xorpd ucomiss ucomisd comiss comisd cvtsi2ss cvtsi2sd cvttss2si cvttsd2si cvtss2sd " +
	"cvtsd2ss shufps shufpd unpcklps unpcklpd unpckhps unpckhpd paddb paddw paddd " +
	"paddq psubb psubw psubd psubq pmullw pmulld pmuludq pand pandn " +
	"por pxor pcmpeqb pcmpeqw pcmpeqd pcmpgtb pcmpgtw pcmpgtd pminub pmaxub " +
	"pminsw pmaxsw pavgb pavgw psadbw punpcklbw punpcklwd punpckldq punpcklqdq punpckhbw " +
	"punpckhwd punpckhdq punpckhqdq packsswb packuswb packssdw packusdw pshufb phaddw phaddd " +
	"pabsb pabsw pabsd psllw pslld psllq psrlw psrld psrlq psraw " +
	"psrad pslldq psrldq pshufd pshuflw pshufhw palignr pblendw pmovmskb ptest " +
	"roundss roundsd vmovaps vmovups vmovapd vmovupd vmovdqa vmovdqu vaddps vaddpd " +
	"vaddss vaddsd vsubps vsubpd vsubss vsubsd vmulps vmulpd vmulss vmulsd " +
	"vdivps vdivpd vdivss vdivsd vminps vminpd vmaxps vmaxpd vandps vandpd " +
	"vorps vorpd vxorps vxorpd vpaddb vpaddw vpaddd vpaddq vpsubb vpsubw " +
	"vpsubd vpsubq vpand vpandn vpor vpxor vpcmpeqb vpcmpeqw vpcmpeqd vpshufb " +
	"vpshufd vpalignr vpblendvb vzeroupper vzeroall vptest vfmadd132ps vfmadd213ps vfmadd231ps vfmadd132pd " +
	"vfmadd213pd vfmadd231pd"

// all yields the numbers and the names of the mnemonics, in order.
func all(yield func(op int, name string) bool) {
	op := api.OpAdd
	for name := range strings.SplitSeq(names, " ") {
		if !yield(op, name) {
			return
		}
		op++
	}
}

// family is the mnemonics that hang on a condition and begin alike: one for each condition, in the order of the conditions' numbers.
type family struct {
	prefix      string
	first, last int
}

// families tells the three.
func families() [3]family {
	return [...]family{
		{"j", api.OpJo, api.OpJg},
		{"set", api.OpSeto, api.OpSetg},
		{"cmov", api.OpCmovo, api.OpCmovg},
	}
}
