package types

import (
	"haruspex/api"
	"haruspex/ir"
)

const noKind = -1 // the kind of what has no type

// regType gives the type of fn's register r; of what is none a type of no kind.
func regType(fn *api.Func, r int) api.Type {
	if !within(r, len(fn.Regs)) {
		return api.Type{Kind: noKind}
	}
	return fn.Regs[r]
}

// field gives the type of the field n of that to which t points; false: there is none.
func field(p *api.Program, t api.Type, n int) (api.Type, bool) {
	if t.Kind != api.TPtr || !within(t.N, len(p.Records)) || !within(n, len(p.Records[t.N])) {
		return api.Type{}, false
	}
	return p.Records[t.N][n], true
}

// sig gives the signature n; false: there is none.
func sig(p *api.Program, n int) (api.Sig, bool) {
	if !within(n, len(p.Sigs)) {
		return api.Sig{}, false
	}
	return p.Sigs[n], true
}

// method gives the signature of the method n of the interface t; false: there is none.
func method(p *api.Program, t api.Type, n int) (api.Sig, bool) {
	if t.Kind != api.TIface || !within(t.N, len(p.Ifaces)) || !within(n, len(p.Ifaces[t.N].Sigs)) {
		return api.Sig{}, false
	}
	return sig(p, p.Ifaces[t.N].Sigs[n])
}

// called gives the signature of what i, a call, calls; false: there is none.
func called(p *api.Program, fn *api.Func, i api.Instr) (api.Sig, bool) {
	a := regType(fn, i.A)
	switch {
	case i.Op == api.OCall && within(i.N, len(p.Funcs)):
		return sig(p, p.Funcs[i.N].Sig)
	case i.Op == api.OCallR && a.Kind == api.TFun:
		return sig(p, a.N)
	case i.Op == api.OCallI:
		return method(p, a, i.N)
	}
	return api.Sig{}, false
}

// regsTyped tells whether what i defines and reads are registers of fn whose types are types of p.
func regsTyped(p *api.Program, fn *api.Func, i api.Instr) bool {
	if r, ok := ir.Def(i); ok && !typeNamed(p, regType(fn, r)) {
		return false
	}
	for _, r := range ir.Uses(i) {
		if !typeNamed(p, regType(fn, r)) {
			return false
		}
	}
	return true
}

// instrFits tells whether i, whose names are right and whose registers have types, has the right ones.
func instrFits(p *api.Program, fn *api.Func, i api.Instr) bool {
	dst, a, b := regType(fn, i.Dst), regType(fn, i.A), regType(fn, i.B)
	switch i.Op {
	case api.OAdd:
		if a.Kind != api.TInt || b.Kind != api.TInt {
			return false
		}
		fallthrough
	case api.OConst, api.OSource:
		return dst.Kind == api.TInt
	case api.ONil:
		return dst.Kind != api.TInt
	case api.OAlloc:
		return dst.Kind == api.TPtr
	case api.OCopy:
		return dst == a
	case api.OLoad:
		t, ok := field(p, a, i.N)
		return ok && t == dst
	case api.OStore:
		t, ok := field(p, a, i.N)
		return ok && t == b
	case api.OFree:
		return a.Kind == api.TPtr
	case api.OFun:
		return within(i.N, len(p.Funcs)) && dst == api.Type{Kind: api.TFun, N: p.Funcs[i.N].Sig}
	case api.OMake:
		return dst.Kind == api.TIface && a.Kind == api.TPtr && implemented(p, a.N, dst.N)
	case api.OCall, api.OCallR, api.OCallI:
		s, ok := called(p, fn, i)
		return ok && argsFit(fn, i.Args, s.Params) && s.Result == dst
	case api.OSink:
		return a.Kind == api.TInt
	}
	return false
}

// implemented tells whether there is an Impl of the record for the interface; whether it is right doc/12 asks.
func implemented(p *api.Program, rec, iface int) bool {
	for k := range p.Impls {
		if p.Impls[k].Rec == rec && p.Impls[k].Iface == iface {
			return true
		}
	}
	return false
}

// argsFit tells whether the registers args have the types of params.
func argsFit(fn *api.Func, args []int, params []api.Type) bool {
	if len(args) != len(params) {
		return false
	}
	for k, r := range args {
		if regType(fn, r) != params[k] {
			return false
		}
	}
	return true
}

// paramsFit tells whether fn's first registers are what its signature asks for.
func paramsFit(p *api.Program, fn *api.Func) bool {
	s, ok := sig(p, fn.Sig)
	if !ok || len(fn.Regs) < len(s.Params) {
		return false
	}
	for k, t := range s.Params {
		if fn.Regs[k] != t {
			return false
		}
	}
	return true
}

// pointFits asks what stands at q, a point of p: an instruction, or an end.
func pointFits(p *api.Program, q api.Point) bool {
	fn := &p.Funcs[q.F]
	b := &fn.Blocks[q.B]
	if q.I < len(b.Code) {
		return Fits(p, q.F, b.Code[q.I])
	}
	return endFits(p, fn, b)
}

func endFits(p *api.Program, fn *api.Func, b *api.Block) bool {
	switch b.End {
	case api.EBranch:
		return regType(fn, b.Reg).Kind == api.TInt
	case api.EReturn:
		s, ok := sig(p, fn.Sig)
		return ok && within(b.Reg, len(fn.Regs)) && fn.Regs[b.Reg] == s.Result
	}
	return true
}

// mainFits tells whether main is a function that takes nothing and gives a number.
func mainFits(p *api.Program) bool {
	if !within(p.Main, len(p.Funcs)) {
		return false
	}
	s, ok := sig(p, p.Funcs[p.Main].Sig)
	return ok && len(s.Params) == 0 && s.Result.Kind == api.TInt
}
