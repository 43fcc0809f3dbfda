package inst

import "linotype/api"

// draft is an instruction whose operands are canonical, but perhaps not yet their order.
type draft struct {
	op   int
	args []*api.Arg
}

// rules tells the three rules of the canonical form: each tells the operands as it has them, none where it does not apply.
func rules() []func(draft) []*api.Arg {
	return []func(draft) []*api.Arg{draft.twice, draft.placed, draft.rising}
}

// ordered tells the operands as the rules have them.
func (d draft) ordered() []*api.Arg {
	args := d.args
visit:
	for _, rule := range rules() {
		switch l := rule(d); len(l) {
		case 0:
			continue visit
		default:
			args = l
			break visit // because no two rules are for the same operands
		}
	}
	return args
}

// twice has the register of imul of a register and an immediate twice.
func (d draft) twice() []*api.Arg {
	if d.op != api.OpImul || !d.are(api.ArgReg, api.ArgImm) {
		return nil
	}
	return []*api.Arg{d.args[0], d.args[0], d.args[1]}
}

// placed has the place of test and xchg ahead of the register.
func (d draft) placed() []*api.Arg {
	if d.op != api.OpTest && d.op != api.OpXchg || !d.are(api.ArgReg, api.ArgMem) {
		return nil
	}
	return d.exchanged()
}

// rising has the register with the lesser number first, where xchg may have either one first.
func (d draft) rising() []*api.Arg {
	if !d.alike() || d.args[0].R.N <= d.args[1].R.N {
		return nil
	}
	return d.exchanged()
}

// alike tells whether it is xchg of two registers of one class.
func (d draft) alike() bool {
	return d.op == api.OpXchg && d.are(api.ArgReg, api.ArgReg) && d.args[0].R.Class == d.args[1].R.Class
}

// are tells whether there are two operands, of these kinds.
func (d draft) are(first, second int) bool {
	return len(d.args) == 2 && d.args[0].Kind == first && d.args[1].Kind == second
}

// exchanged tells two operands, the second one first.
func (d draft) exchanged() []*api.Arg {
	return []*api.Arg{d.args[1], d.args[0]}
}

// with tells the instruction with these operands, as new memory.
func (d draft) with(args []*api.Arg) api.Inst {
	i := api.Inst{Op: d.op}
	for _, a := range args {
		i.Args = append(i.Args, *a)
	}
	return i
}
