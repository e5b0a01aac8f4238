package types_test

import (
	"math"
	"slices"
	"testing"

	"haruspex/api"
	"haruspex/types"
)

// Long lists are not gone through to know that they are too long, nor those that share one memory again and again.
func TestBoundsOfLongLists(t *testing.T) {
	const n, m = 1 << 22, 1 << 16
	args := make([]int, n)
	instrs := slices.Repeat([]api.Instr{{Args: args}}, m)
	blocks := slices.Repeat([]api.Block{{Code: instrs}}, m)
	for name, p := range map[string]*api.Program{
		"records":      {Records: slices.Repeat([][]api.Type{make([]api.Type, n)}, m)},
		"signatures":   {Sigs: slices.Repeat([]api.Sig{{Params: make([]api.Type, n)}}, m)},
		"interfaces":   {Ifaces: slices.Repeat([]api.Iface{{Sigs: args}}, m)},
		"Impls":        {Impls: slices.Repeat([]api.Impl{{Funcs: args}}, m)},
		"registers":    {Funcs: slices.Repeat([]api.Func{{Regs: make([]api.Type, n), Blocks: blocks}}, m)},
		"instructions": {Funcs: slices.Repeat([]api.Func{{Blocks: blocks}}, m)},
		"a function":   {Funcs: []api.Func{{Blocks: blocks}}},
		"a block":      {Funcs: []api.Func{{Blocks: []api.Block{{Code: instrs}}}}},
		"a call":       {Funcs: []api.Func{{Blocks: []api.Block{{Code: instrs[:1]}}}}},
	} {
		if len(p.Funcs) == 0 {
			p.Funcs = great().Funcs
		}
		if got := told(types.Bounds(p)); got != "bound" {
			t.Errorf("P10.1: long %s: %q", name, got)
		}
	}
}

// Of programs that are not in bounds nothing is promised but that the calls end and do not panic: here names and
// types are right but for the last ones.
func TestLongLists(t *testing.T) {
	const n = 1 << 17
	for name, turn := range map[string]func(p *api.Program){
		"records":      func(p *api.Program) { p.Records = append(p.Records, make([][]api.Type, n)...) },
		"fields":       func(p *api.Program) { p.Records = append(p.Records, make([]api.Type, n)) },
		"signatures":   func(p *api.Program) { p.Sigs = append(p.Sigs, make([]api.Sig, n)...) },
		"parameters":   func(p *api.Program) { p.Sigs = append(p.Sigs, api.Sig{Params: make([]api.Type, n)}) },
		"interfaces":   func(p *api.Program) { p.Ifaces = append(p.Ifaces, make([]api.Iface, n)...) },
		"methods":      func(p *api.Program) { p.Ifaces = append(p.Ifaces, api.Iface{Sigs: make([]int, n)}) },
		"Impls":        func(p *api.Program) { p.Impls = append(p.Impls, make([]api.Impl, n)...) },
		"registers":    func(p *api.Program) { p.Funcs[main].Regs = append(p.Funcs[main].Regs, make([]api.Type, n)...) },
		"functions":    func(p *api.Program) { p.Funcs = append(p.Funcs, make([]api.Func, n)...) },
		"blocks":       func(p *api.Program) { p.Funcs[main].Blocks = slices.Repeat([]api.Block{gives(0)}, n) },
		"instructions": func(p *api.Program) { p.Funcs[main].Blocks[0].Code = slices.Repeat([]api.Instr{{Op: api.OConst}}, n) },
		"arguments": func(p *api.Program) {
			p.Sigs = append(p.Sigs, api.Sig{Params: make([]api.Type, n)})
			p.Funcs = append(p.Funcs, api.Func{Sig: 6, Regs: make([]api.Type, n)})
			p.Funcs[main].Blocks[0].Code[0] = api.Instr{Op: api.OCall, N: 5, Args: make([]int, n)}
		},
	} {
		p := great()
		turn(p)
		if got := told(types.Names(p)) + told(types.Check(p)); got != "" {
			t.Errorf("P0.1: many %s: %q", name, got)
		}
		p.Main = -1
		if got := told(types.Names(p)) + told(types.Check(p)); got != "nametype" {
			t.Errorf("P0.1: many %s and a wrong Main: %q", name, got)
		}
	}
}

func TestFitsOfManyArgs(t *testing.T) {
	const n = 1 << 18
	p := great()
	p.Sigs[1] = api.Sig{Params: make([]api.Type, n)}
	i := api.Instr{Op: api.OCallR, A: rF1, Args: make([]int, n)}
	if !types.Fits(p, main, i) {
		t.Error("P10.2: a call of many Args does not fit")
	}
	for _, r := range []int{rP0, -1, 10, math.MaxInt} {
		i.Args[n-1] = r
		if types.Fits(p, main, i) {
			t.Errorf("P10.2: a call whose last argument is r%d fits", r)
		}
	}
}

// A program at all its limits at once that may be.
func TestAllLimits(t *testing.T) {
	recs := slices.Repeat([][]api.Type{slices.Repeat([]api.Type{{Kind: api.TPtr, N: api.MaxRecs - 1}}, api.MaxFields)}, api.MaxRecs)
	top := api.Type{Kind: api.TPtr, N: api.MaxRecs - 1}
	params := slices.Repeat([]api.Type{top}, api.MaxParams)
	p := &api.Program{
		Records: recs,
		Sigs:    append(slices.Repeat([]api.Sig{{Params: params, Result: top}}, api.MaxSigs-1), api.Sig{}),
		Ifaces:  slices.Repeat([]api.Iface{{Sigs: []int{0, 1, api.MaxSigs - 1}}}, api.MaxIfaces),
		Impls:   slices.Repeat([]api.Impl{{Rec: api.MaxRecs - 1, Iface: api.MaxIfaces - 1, Funcs: []int{0, 1, api.MaxFuncs - 1}}}, api.MaxImpls),
		Main:    api.MaxFuncs - 1,
	}
	regs := append(slices.Repeat([]api.Type{top}, api.MaxRegs-2), api.Type{Kind: api.TIface, N: api.MaxIfaces - 1}, num)
	call := api.Instr{Op: api.OCallI, Dst: 1, A: api.MaxRegs - 2, N: 1, Args: []int{0, 1, 2, api.MaxRegs - 3}}
	for range api.MaxFuncs - 1 {
		p.Funcs = append(p.Funcs, api.Func{Sig: api.MaxSigs - 2, Regs: regs, Blocks: []api.Block{gives(0, call, api.Instr{Op: api.OMake, Dst: api.MaxRegs - 2})}})
	}
	last := api.Block{End: api.EBranch, Reg: api.MaxRegs - 1, To: api.MaxBlocks - 1, Else: api.MaxBlocks - 1}
	last.Code = slices.Repeat([]api.Instr{{Op: api.OLoad, A: 1, N: api.MaxFields - 1}}, api.MaxCode)
	main := api.Func{Sig: api.MaxSigs - 1, Regs: regs, Blocks: slices.Repeat([]api.Block{last}, api.MaxBlocks)}
	main.Blocks[0].Code = append(slices.Repeat([]api.Instr{{Op: api.OAlloc}}, api.MaxCode-10), make([]api.Instr, 10)...)
	for k := range 10 {
		main.Blocks[0].Code[api.MaxCode-10+k] = api.Instr{Op: api.OFun, Dst: 0, N: api.MaxFuncs - 1}
	}
	p.Funcs = append(p.Funcs, main)
	if got := told(types.Bounds(p)); got != "" {
		t.Errorf("P10.1: Bounds: %q", got)
	}
	if got := told(types.Names(p)); got != "" {
		t.Errorf("P10.1: Names: %q", got)
	}
	// A function is no pointer.
	if got := told(types.Check(p)); got != "type 11.0.20" {
		t.Errorf("P10.2: Check: %q", got)
	}
	copy(main.Blocks[0].Code[api.MaxCode-10:], slices.Repeat([]api.Instr{{Op: api.OFree, A: 1}}, 10))
	if got := told(types.Check(p)); got != "" {
		t.Errorf("P10.2: Check: %q", got)
	}
}
