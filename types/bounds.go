package types

import (
	"haruspex/api"
	"haruspex/ir"
)

// bounded asks for the length of each list ahead of going through it, and counts only where all lengths are in
// bounds: lists of any length cost no more than short ones.
func bounded(p *api.Program) bool {
	return len(p.Funcs) > 0 &&
		each(p.Records, api.MaxRecs, func(r []api.Type) bool { return len(r) <= api.MaxFields }) &&
		each(p.Sigs, api.MaxSigs, func(s api.Sig) bool { return len(s.Params) <= api.MaxParams }) &&
		each(p.Ifaces, api.MaxIfaces, func(f api.Iface) bool { return len(f.Sigs) <= api.MaxMeths }) &&
		each(p.Impls, api.MaxImpls, func(m api.Impl) bool { return len(m.Funcs) <= api.MaxMeths }) &&
		each(p.Funcs, api.MaxFuncs, funcBounded) &&
		len(ir.Points(p)) <= api.MaxPoints && sites(p) <= api.MaxSites
}

func funcBounded(f api.Func) bool {
	return len(f.Regs) <= api.MaxRegs && len(f.Blocks) > 0 && each(f.Blocks, api.MaxBlocks, blockBounded)
}

func blockBounded(b api.Block) bool {
	// A call has as many arguments as its function has parameters: their limit is one.
	return each(b.Code, api.MaxCode, func(i api.Instr) bool { return len(i.Args) <= api.MaxParams })
}

// each tells whether l has at most so many parts and all of them are good.
func each[T any](l []T, most int, good func(T) bool) bool {
	if len(l) > most {
		return false
	}
	for k := range l {
		if !good(l[k]) {
			return false
		}
	}
	return true
}

// sites tells how many OAllocs p has.
func sites(p *api.Program) int {
	n := 0
	for _, q := range ir.Points(p) {
		code := p.Funcs[q.F].Blocks[q.B].Code
		if q.I < len(code) && code[q.I].Op == api.OAlloc {
			n++
		}
	}
	return n
}
