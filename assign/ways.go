package assign

import (
	"haruspex/api"
	"haruspex/bitset"
	"haruspex/graph"
	"haruspex/ir"
)

// within tells whether k names one of n things.
func within(k, n int) bool { return 0 <= k && k < n }

// targets gives the blocks that may come behind b, of n blocks.
func targets(b *api.Block, n int) []int {
	var l []int
	jumps := b.End == api.EJump || b.End == api.EBranch
	if jumps && within(b.To, n) {
		l = append(l, b.To)
	}
	if b.End == api.EBranch && b.Else != b.To && within(b.Else, n) {
		l = append(l, b.Else)
	}
	return l
}

// reached gives the blocks to which a way leads.
func reached(g graph.Graph) *bitset.Set { return graph.Reach(g, []int{0}) }

// stopped gives the ways of g that end at the first block that assigns r: those on which r is bare up to their last
// block.
func stopped(g graph.Graph, defs []*bitset.Set, r int) graph.Graph {
	to := make([][]int, g.N)
	for b := range to {
		if !defs[b].Has(r) {
			to[b] = g.To[b]
		}
	}
	return graph.Graph{N: g.N, To: to}
}

// regs tells how many registers fn has, of those that a set can hold.
func regs(fn *api.Func) int { return min(len(fn.Regs), api.MaxSet) }

// params tells how many parameters fn has: its first registers are these.
func params(p *api.Program, fn *api.Func) int {
	if !within(fn.Sig, len(p.Sigs)) {
		return 0
	}
	return len(p.Sigs[fn.Sig].Params)
}

// registers gives all registers of fn.
func registers(fn *api.Func) *bitset.Set {
	s := bitset.Of()
	for r := range regs(fn) {
		s.Add(r)
	}
	return s
}

// defined gives the registers that b assigns.
func defined(b *api.Block) *bitset.Set {
	s := bitset.Of()
	for _, i := range b.Code {
		if d, ok := ir.Def(i); ok {
			s.Add(d)
		}
	}
	return s
}

// firstBare gives the first place in b, its end behind its instructions, at which a register is read that is neither in
// have nor assigned ahead of it in b; -1: there is none. What b assigns is put into have.
func firstBare(b *api.Block, have *bitset.Set) int {
	for k, i := range b.Code {
		if !hasAll(have, ir.Uses(i)) {
			return k
		}
		if d, ok := ir.Def(i); ok {
			have.Add(d)
		}
	}
	if (b.End == api.EBranch || b.End == api.EReturn) && !have.Has(b.Reg) {
		return len(b.Code)
	}
	return -1
}

// hasAll tells whether s has all of l.
func hasAll(s *bitset.Set, l []int) bool {
	for _, n := range l {
		if !s.Has(n) {
			return false
		}
	}
	return true
}
