package name

import "linotype/api"

// row is a mnemonic's number and its name.
type row struct {
	op   int
	name string
}

// known tells all mnemonics by their constants, in the document's order.
func known() []row {
	return []row{
		{api.OpAdd, "add"}, {api.OpOr, "or"}, {api.OpAdc, "adc"}, {api.OpSbb, "sbb"}, {api.OpAnd, "and"}, {api.OpSub, "sub"}, {api.OpXor, "xor"}, {api.OpCmp, "cmp"}, {api.OpMov, "mov"},
		{api.OpTest, "test"}, {api.OpXchg, "xchg"}, {api.OpLea, "lea"}, {api.OpMovzx, "movzx"}, {api.OpMovsx, "movsx"}, {api.OpMovsxd, "movsxd"}, {api.OpImul, "imul"}, {api.OpInc, "inc"},
		{api.OpDec, "dec"}, {api.OpNeg, "neg"}, {api.OpNot, "not"}, {api.OpMul, "mul"}, {api.OpDiv, "div"}, {api.OpIdiv, "idiv"}, {api.OpRol, "rol"}, {api.OpRor, "ror"}, {api.OpRcl, "rcl"},
		{api.OpRcr, "rcr"}, {api.OpShl, "shl"}, {api.OpShr, "shr"}, {api.OpSar, "sar"}, {api.OpShld, "shld"}, {api.OpShrd, "shrd"}, {api.OpBswap, "bswap"}, {api.OpXadd, "xadd"},
		{api.OpCmpxchg, "cmpxchg"}, {api.OpBt, "bt"}, {api.OpBts, "bts"}, {api.OpBtr, "btr"}, {api.OpBtc, "btc"}, {api.OpBsf, "bsf"}, {api.OpBsr, "bsr"}, {api.OpCbw, "cbw"}, {api.OpCwde, "cwde"},
		{api.OpCdqe, "cdqe"}, {api.OpCwd, "cwd"}, {api.OpCdq, "cdq"}, {api.OpCqo, "cqo"}, {api.OpPush, "push"}, {api.OpPop, "pop"}, {api.OpNop, "nop"}, {api.OpRet, "ret"}, {api.OpLeave, "leave"},
		{api.OpCall, "call"}, {api.OpJmp, "jmp"}, {api.OpInt3, "int3"}, {api.OpSyscall, "syscall"}, {api.OpUd2, "ud2"}, {api.OpHlt, "hlt"}, {api.OpClc, "clc"}, {api.OpStc, "stc"},
		{api.OpCmc, "cmc"}, {api.OpCld, "cld"}, {api.OpStd, "std"}, {api.OpLahf, "lahf"}, {api.OpSahf, "sahf"}, {api.OpCpuid, "cpuid"}, {api.OpRdtsc, "rdtsc"}, {api.OpJo, "jo"}, {api.OpJno, "jno"},
		{api.OpJb, "jb"}, {api.OpJae, "jae"}, {api.OpJe, "je"}, {api.OpJne, "jne"}, {api.OpJbe, "jbe"}, {api.OpJa, "ja"}, {api.OpJs, "js"}, {api.OpJns, "jns"}, {api.OpJp, "jp"}, {api.OpJnp, "jnp"},
		{api.OpJl, "jl"}, {api.OpJge, "jge"}, {api.OpJle, "jle"}, {api.OpJg, "jg"}, {api.OpSeto, "seto"}, {api.OpSetno, "setno"}, {api.OpSetb, "setb"}, {api.OpSetae, "setae"}, {api.OpSete, "sete"},
		{api.OpSetne, "setne"}, {api.OpSetbe, "setbe"}, {api.OpSeta, "seta"}, {api.OpSets, "sets"}, {api.OpSetns, "setns"}, {api.OpSetp, "setp"}, {api.OpSetnp, "setnp"}, {api.OpSetl, "setl"},
		{api.OpSetge, "setge"}, {api.OpSetle, "setle"}, {api.OpSetg, "setg"}, {api.OpCmovo, "cmovo"}, {api.OpCmovno, "cmovno"}, {api.OpCmovb, "cmovb"}, {api.OpCmovae, "cmovae"},
		{api.OpCmove, "cmove"}, {api.OpCmovne, "cmovne"}, {api.OpCmovbe, "cmovbe"}, {api.OpCmova, "cmova"}, {api.OpCmovs, "cmovs"}, {api.OpCmovns, "cmovns"}, {api.OpCmovp, "cmovp"},
		{api.OpCmovnp, "cmovnp"}, {api.OpCmovl, "cmovl"}, {api.OpCmovge, "cmovge"}, {api.OpCmovle, "cmovle"}, {api.OpCmovg, "cmovg"}, {api.OpPopcnt, "popcnt"}, {api.OpLzcnt, "lzcnt"},
		{api.OpTzcnt, "tzcnt"}, {api.OpAndn, "andn"}, {api.OpBextr, "bextr"}, {api.OpBlsi, "blsi"}, {api.OpBlsmsk, "blsmsk"}, {api.OpBlsr, "blsr"}, {api.OpBzhi, "bzhi"}, {api.OpPdep, "pdep"},
		{api.OpPext, "pext"}, {api.OpMulx, "mulx"}, {api.OpRorx, "rorx"}, {api.OpSarx, "sarx"}, {api.OpShlx, "shlx"}, {api.OpShrx, "shrx"}, {api.OpAdcx, "adcx"}, {api.OpAdox, "adox"},
		{api.OpMovbe, "movbe"}, {api.OpCrc32, "crc32"}, {api.OpMovaps, "movaps"}, {api.OpMovups, "movups"}, {api.OpMovapd, "movapd"}, {api.OpMovupd, "movupd"}, {api.OpMovdqa, "movdqa"},
		{api.OpMovdqu, "movdqu"}, {api.OpMovss, "movss"}, {api.OpMovsd, "movsd"}, {api.OpMovd, "movd"}, {api.OpMovq, "movq"}, {api.OpAddps, "addps"}, {api.OpAddpd, "addpd"}, {api.OpAddss, "addss"},
		{api.OpAddsd, "addsd"}, {api.OpSubps, "subps"}, {api.OpSubpd, "subpd"}, {api.OpSubss, "subss"}, {api.OpSubsd, "subsd"}, {api.OpMulps, "mulps"}, {api.OpMulpd, "mulpd"},
		{api.OpMulss, "mulss"}, {api.OpMulsd, "mulsd"}, {api.OpDivps, "divps"}, {api.OpDivpd, "divpd"}, {api.OpDivss, "divss"}, {api.OpDivsd, "divsd"}, {api.OpMinps, "minps"},
		{api.OpMinpd, "minpd"}, {api.OpMinss, "minss"}, {api.OpMinsd, "minsd"}, {api.OpMaxps, "maxps"}, {api.OpMaxpd, "maxpd"}, {api.OpMaxss, "maxss"}, {api.OpMaxsd, "maxsd"},
		{api.OpSqrtps, "sqrtps"}, {api.OpSqrtpd, "sqrtpd"}, {api.OpSqrtss, "sqrtss"}, {api.OpSqrtsd, "sqrtsd"}, {api.OpAndps, "andps"}, {api.OpAndpd, "andpd"}, {api.OpAndnps, "andnps"},
		{api.OpAndnpd, "andnpd"}, {api.OpOrps, "orps"}, {api.OpOrpd, "orpd"}, {api.OpXorps, "xorps"}, {api.OpXorpd, "xorpd"}, {api.OpUcomiss, "ucomiss"}, {api.OpUcomisd, "ucomisd"},
		{api.OpComiss, "comiss"}, {api.OpComisd, "comisd"}, {api.OpCvtsi2ss, "cvtsi2ss"}, {api.OpCvtsi2sd, "cvtsi2sd"}, {api.OpCvttss2si, "cvttss2si"}, {api.OpCvttsd2si, "cvttsd2si"},
		{api.OpCvtss2sd, "cvtss2sd"}, {api.OpCvtsd2ss, "cvtsd2ss"}, {api.OpShufps, "shufps"}, {api.OpShufpd, "shufpd"}, {api.OpUnpcklps, "unpcklps"}, {api.OpUnpcklpd, "unpcklpd"},
		{api.OpUnpckhps, "unpckhps"}, {api.OpUnpckhpd, "unpckhpd"}, {api.OpPaddb, "paddb"}, {api.OpPaddw, "paddw"}, {api.OpPaddd, "paddd"}, {api.OpPaddq, "paddq"}, {api.OpPsubb, "psubb"},
		{api.OpPsubw, "psubw"}, {api.OpPsubd, "psubd"}, {api.OpPsubq, "psubq"}, {api.OpPmullw, "pmullw"}, {api.OpPmulld, "pmulld"}, {api.OpPmuludq, "pmuludq"}, {api.OpPand, "pand"},
		{api.OpPandn, "pandn"}, {api.OpPor, "por"}, {api.OpPxor, "pxor"}, {api.OpPcmpeqb, "pcmpeqb"}, {api.OpPcmpeqw, "pcmpeqw"}, {api.OpPcmpeqd, "pcmpeqd"}, {api.OpPcmpgtb, "pcmpgtb"},
		{api.OpPcmpgtw, "pcmpgtw"}, {api.OpPcmpgtd, "pcmpgtd"}, {api.OpPminub, "pminub"}, {api.OpPmaxub, "pmaxub"}, {api.OpPminsw, "pminsw"}, {api.OpPmaxsw, "pmaxsw"}, {api.OpPavgb, "pavgb"},
		{api.OpPavgw, "pavgw"}, {api.OpPsadbw, "psadbw"}, {api.OpPunpcklbw, "punpcklbw"}, {api.OpPunpcklwd, "punpcklwd"}, {api.OpPunpckldq, "punpckldq"}, {api.OpPunpcklqdq, "punpcklqdq"},
		{api.OpPunpckhbw, "punpckhbw"}, {api.OpPunpckhwd, "punpckhwd"}, {api.OpPunpckhdq, "punpckhdq"}, {api.OpPunpckhqdq, "punpckhqdq"}, {api.OpPacksswb, "packsswb"}, {api.OpPackuswb, "packuswb"},
		{api.OpPackssdw, "packssdw"}, {api.OpPackusdw, "packusdw"}, {api.OpPshufb, "pshufb"}, {api.OpPhaddw, "phaddw"}, {api.OpPhaddd, "phaddd"}, {api.OpPabsb, "pabsb"}, {api.OpPabsw, "pabsw"},
		{api.OpPabsd, "pabsd"}, {api.OpPsllw, "psllw"}, {api.OpPslld, "pslld"}, {api.OpPsllq, "psllq"}, {api.OpPsrlw, "psrlw"}, {api.OpPsrld, "psrld"}, {api.OpPsrlq, "psrlq"},
		{api.OpPsraw, "psraw"}, {api.OpPsrad, "psrad"}, {api.OpPslldq, "pslldq"}, {api.OpPsrldq, "psrldq"}, {api.OpPshufd, "pshufd"}, {api.OpPshuflw, "pshuflw"}, {api.OpPshufhw, "pshufhw"},
		{api.OpPalignr, "palignr"}, {api.OpPblendw, "pblendw"}, {api.OpPmovmskb, "pmovmskb"}, {api.OpPtest, "ptest"}, {api.OpRoundss, "roundss"}, {api.OpRoundsd, "roundsd"},
		{api.OpVmovaps, "vmovaps"}, {api.OpVmovups, "vmovups"}, {api.OpVmovapd, "vmovapd"}, {api.OpVmovupd, "vmovupd"}, {api.OpVmovdqa, "vmovdqa"}, {api.OpVmovdqu, "vmovdqu"},
		{api.OpVaddps, "vaddps"}, {api.OpVaddpd, "vaddpd"}, {api.OpVaddss, "vaddss"}, {api.OpVaddsd, "vaddsd"}, {api.OpVsubps, "vsubps"}, {api.OpVsubpd, "vsubpd"}, {api.OpVsubss, "vsubss"},
		{api.OpVsubsd, "vsubsd"}, {api.OpVmulps, "vmulps"}, {api.OpVmulpd, "vmulpd"}, {api.OpVmulss, "vmulss"}, {api.OpVmulsd, "vmulsd"}, {api.OpVdivps, "vdivps"}, {api.OpVdivpd, "vdivpd"},
		{api.OpVdivss, "vdivss"}, {api.OpVdivsd, "vdivsd"}, {api.OpVminps, "vminps"}, {api.OpVminpd, "vminpd"}, {api.OpVmaxps, "vmaxps"}, {api.OpVmaxpd, "vmaxpd"}, {api.OpVandps, "vandps"},
		{api.OpVandpd, "vandpd"}, {api.OpVorps, "vorps"}, {api.OpVorpd, "vorpd"}, {api.OpVxorps, "vxorps"}, {api.OpVxorpd, "vxorpd"}, {api.OpVpaddb, "vpaddb"}, {api.OpVpaddw, "vpaddw"},
		{api.OpVpaddd, "vpaddd"}, {api.OpVpaddq, "vpaddq"}, {api.OpVpsubb, "vpsubb"}, {api.OpVpsubw, "vpsubw"}, {api.OpVpsubd, "vpsubd"}, {api.OpVpsubq, "vpsubq"}, {api.OpVpand, "vpand"},
		{api.OpVpandn, "vpandn"}, {api.OpVpor, "vpor"}, {api.OpVpxor, "vpxor"}, {api.OpVpcmpeqb, "vpcmpeqb"}, {api.OpVpcmpeqw, "vpcmpeqw"}, {api.OpVpcmpeqd, "vpcmpeqd"}, {api.OpVpshufb, "vpshufb"},
		{api.OpVpshufd, "vpshufd"}, {api.OpVpalignr, "vpalignr"}, {api.OpVpblendvb, "vpblendvb"}, {api.OpVzeroupper, "vzeroupper"}, {api.OpVzeroall, "vzeroall"}, {api.OpVptest, "vptest"},
		{api.OpVfmadd132ps, "vfmadd132ps"}, {api.OpVfmadd213ps, "vfmadd213ps"}, {api.OpVfmadd231ps, "vfmadd231ps"}, {api.OpVfmadd132pd, "vfmadd132pd"}, {api.OpVfmadd213pd, "vfmadd213pd"},
		{api.OpVfmadd231pd, "vfmadd231pd"},
	}
}

// beginnings tells how the mnemonics begin that hang on a condition.
func beginnings() []string {
	return []string{"j", "set", "cmov"}
}

// conditions tells the names of each condition in order, its own first, as layer 4 of the document has them.
func conditions() [][]string {
	return [][]string{
		{"o"}, {"no"}, {"b", "c", "nae"}, {"ae", "nb", "nc"}, {"e", "z"}, {"ne", "nz"}, {"be", "na"}, {"a", "nbe"},
		{"s"}, {"ns"}, {"p", "pe"}, {"np", "po"}, {"l", "nge"}, {"ge", "nl"}, {"le", "ng"}, {"g", "nle"},
	}
}
