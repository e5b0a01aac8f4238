package sem

import (
	"slices"

	"haruspex/api"
	"haruspex/value"
)

// keep gives a copy of what a run needs of p, so that who changes p turns no run that has begun.
func keep(p *api.Program) *api.Program {
	own := &api.Program{
		Records: slices.Clone(p.Records),
		Impls:   slices.Clone(p.Impls),
		Funcs:   slices.Clone(p.Funcs),
	}
	for k, r := range own.Records {
		own.Records[k] = slices.Clone(r)
	}
	for k, m := range own.Impls {
		own.Impls[k].Funcs = slices.Clone(m.Funcs)
	}
	for k, fn := range own.Funcs {
		own.Funcs[k].Regs = slices.Clone(fn.Regs)
		own.Funcs[k].Blocks = keepBlocks(fn.Blocks)
	}
	return own
}

func keepBlocks(blocks []api.Block) []api.Block {
	own := slices.Clone(blocks)
	for b := range own {
		own[b].Code = slices.Clone(own[b].Code)
		for k, i := range own[b].Code {
			own[b].Code[k].Args = slices.Clone(i.Args)
		}
	}
	return own
}

// copyObject makes in to, which has all objects below o, the object o of from, whose record is rec.
func copyObject(to, from *value.Heap, o int64, rec []api.Type) {
	to.Alloc(from.Site(o), rec)
	for field := range rec {
		// What a free object held nobody can read.
		if v, why := from.Get(o, field); why == 0 {
			to.Set(o, field, v)
		}
	}
	if from.Freed(o) {
		to.Free(o)
	}
}
