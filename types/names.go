package types

import (
	"haruspex/api"
	"haruspex/ir"
)

// within tells whether k names one of n things.
func within(k, n int) bool { return 0 <= k && k < n }

// allWithin tells whether each number of l names one of n things.
func allWithin(l []int, n int) bool {
	for _, k := range l {
		if !within(k, n) {
			return false
		}
	}
	return true
}

// typeNamed tells whether t is a type of p.
func typeNamed(p *api.Program, t api.Type) bool {
	switch t.Kind {
	case api.TInt:
		return t.N == 0
	case api.TPtr:
		return within(t.N, len(p.Records))
	case api.TFun:
		return within(t.N, len(p.Sigs))
	case api.TIface:
		return within(t.N, len(p.Ifaces))
	}
	return false
}

// typesNamed tells whether each of l is a type of p.
func typesNamed(p *api.Program, l []api.Type) bool {
	for _, t := range l {
		if !typeNamed(p, t) {
			return false
		}
	}
	return true
}

// tablesNamed asks what stands ahead of the functions; it has no points.
func tablesNamed(p *api.Program) bool {
	for _, r := range p.Records {
		if !typesNamed(p, r) {
			return false
		}
	}
	for _, s := range p.Sigs {
		if !typesNamed(p, s.Params) || !typeNamed(p, s.Result) {
			return false
		}
	}
	for _, f := range p.Ifaces {
		if !allWithin(f.Sigs, len(p.Sigs)) {
			return false
		}
	}
	for _, m := range p.Impls {
		if !within(m.Rec, len(p.Records)) || !within(m.Iface, len(p.Ifaces)) || !allWithin(m.Funcs, len(p.Funcs)) {
			return false
		}
	}
	return true
}

// funcNames refuses the function f, which there is, at its first number that names nothing.
func funcNames(p *api.Program, f int) error {
	fn := &p.Funcs[f]
	if !within(fn.Sig, len(p.Sigs)) || !typesNamed(p, fn.Regs) {
		return refused(api.WhyName)
	}
	for b := range fn.Blocks {
		code := fn.Blocks[b].Code
		for i := range code {
			if !instrNamed(p, fn, code[i]) {
				return refusedAt(api.WhyName, api.Point{F: f, B: b, I: i})
			}
		}
		if !endNamed(fn, &fn.Blocks[b]) {
			return refusedAt(api.WhyName, api.Point{F: f, B: b, I: len(code)})
		}
	}
	return nil
}

// instrNamed is one for Names and Fits: what Names refuses at a point does not fit there.
func instrNamed(p *api.Program, fn *api.Func, i api.Instr) bool {
	return restIsEmpty(i) && regsNamed(fn, i) && numberNamed(p, fn, i)
}

// restIsEmpty tells whether i's Op is one and what does not count for it is 0: it clears what counts and asks what is left.
func restIsEmpty(i api.Instr) bool {
	switch i.Op {
	case api.OCallI:
		i.N = 0
		fallthrough
	case api.OCallR:
		i.Args = nil
		fallthrough
	case api.OCopy, api.OMake:
		i.A = 0
		fallthrough
	case api.OSource, api.ONil, api.OAlloc:
		i.Dst = 0
	case api.OCall:
		i.Args = nil
		fallthrough
	case api.OConst, api.OFun:
		i.Dst, i.N = 0, 0
	case api.OStore:
		i.B, i.N = 0, 0
		fallthrough
	case api.OFree, api.OSink:
		i.A = 0
	case api.OAdd:
		i.Dst, i.A, i.B = 0, 0, 0
	case api.OLoad:
		i.Dst, i.A, i.N = 0, 0, 0
	default:
		return false
	}
	return i.Dst == 0 && i.A == 0 && i.B == 0 && i.N == 0 && len(i.Args) == 0
}

// regsNamed tells whether what i defines and reads are registers of fn.
func regsNamed(fn *api.Func, i api.Instr) bool {
	if r, ok := ir.Def(i); ok && !within(r, len(fn.Regs)) {
		return false
	}
	return allWithin(ir.Uses(i), len(fn.Regs))
}

// numberNamed tells whether i's N names what it should; A's type, where it is not of the right kind, is for Check to refuse.
func numberNamed(p *api.Program, fn *api.Func, i api.Instr) bool {
	switch i.Op {
	case api.OFun, api.OCall:
		return within(i.N, len(p.Funcs))
	case api.OLoad, api.OStore:
		t := regType(fn, i.A)
		_, ok := field(p, t, i.N)
		return ok || t.Kind != api.TPtr
	case api.OCallI:
		t := regType(fn, i.A)
		_, ok := method(p, t, i.N)
		return ok || t.Kind != api.TIface
	}
	return true
}

func endNamed(fn *api.Func, b *api.Block) bool {
	switch b.End {
	case api.EJump:
		return b.Reg == 0 && within(b.To, len(fn.Blocks)) && b.Else == 0
	case api.EBranch:
		return within(b.Reg, len(fn.Regs)) && within(b.To, len(fn.Blocks)) && within(b.Else, len(fn.Blocks))
	case api.EReturn:
		return within(b.Reg, len(fn.Regs)) && b.To == 0 && b.Else == 0
	}
	return false
}
