package types_test

import (
	"fmt"
	"slices"
	"testing"

	"haruspex/api"
	"haruspex/types"
)

// small gives a program of n functions, each of one block without code: it is in bounds while n is.
func small(n int) *api.Program {
	return &api.Program{Funcs: slices.Repeat([]api.Func{{Blocks: []api.Block{{}}}}, n)}
}

// one gives a program of one function with these blocks.
func one(blocks ...api.Block) *api.Program {
	return &api.Program{Funcs: []api.Func{{Blocks: blocks}}}
}

// even gives n blocks of so many instructions, which are none.
func even(n, code int) []api.Block {
	l := make([]api.Block, n)
	for b := range l {
		l[b].Code = make([]api.Instr, code)
	}
	return l
}

// with gives small(2) after a turn.
func with(turn func(p *api.Program)) *api.Program {
	p := small(2)
	turn(p)
	return p
}

// Each limit: as many as there may be, one fewer, one more, and far more; as the last of their list too.
func TestLimits(t *testing.T) {
	for _, x := range []struct {
		name string
		most int
		of   func(n int) *api.Program
	}{
		{"Funcs", 12, small},
		{"Records", 6, func(n int) *api.Program { return with(func(p *api.Program) { p.Records = make([][]api.Type, n) }) }},
		{"Sigs", 10, func(n int) *api.Program { return with(func(p *api.Program) { p.Sigs = make([]api.Sig, n) }) }},
		{"Ifaces", 4, func(n int) *api.Program { return with(func(p *api.Program) { p.Ifaces = make([]api.Iface, n) }) }},
		{"Impls", 12, func(n int) *api.Program { return with(func(p *api.Program) { p.Impls = make([]api.Impl, n) }) }},
		{"Fields", 4, func(n int) *api.Program {
			return with(func(p *api.Program) { p.Records = [][]api.Type{{}, make([]api.Type, n)} })
		}},
		{"Params", 4, func(n int) *api.Program {
			return with(func(p *api.Program) { p.Sigs = []api.Sig{{}, {Params: make([]api.Type, n)}} })
		}},
		{"Methods", 3, func(n int) *api.Program {
			return with(func(p *api.Program) { p.Ifaces = []api.Iface{{}, {Sigs: make([]int, n)}} })
		}},
		{"Methods of an Impl", 3, func(n int) *api.Program {
			return with(func(p *api.Program) { p.Impls = []api.Impl{{}, {Funcs: make([]int, n)}} })
		}},
		{"Regs", 16, func(n int) *api.Program { return with(func(p *api.Program) { p.Funcs[1].Regs = make([]api.Type, n) }) }},
		{"Blocks", 12, func(n int) *api.Program { return with(func(p *api.Program) { p.Funcs[1].Blocks = even(n, 0) }) }},
		{"Code", 30, func(n int) *api.Program {
			return with(func(p *api.Program) { p.Funcs[1].Blocks = append(even(2, 0), even(1, n)...) })
		}},
		{"Args", 4, func(n int) *api.Program {
			return with(func(p *api.Program) {
				p.Funcs[1].Blocks = even(2, 3)
				p.Funcs[1].Blocks[1].Code[2].Args = make([]int, n)
			})
		}},
	} {
		for _, n := range []int{1, x.most - 1, x.most} {
			if e := types.Bounds(x.of(n)); e != nil {
				t.Errorf("P10.1: %d %s: %v", n, x.name, e)
			}
		}
		for _, n := range []int{x.most + 1, x.most + 2, 100, 1 << 16} {
			if got := told(types.Bounds(x.of(n))); got != "bound" {
				t.Errorf("P10.1: %d %s: %q", n, x.name, got)
			}
		}
	}
}

func TestTooFew(t *testing.T) {
	for n := range 12 {
		p := small(n + 1)
		p.Funcs[n].Blocks = nil
		if got := told(types.Bounds(p)); got != "bound" {
			t.Errorf("P10.1: the function %d has no blocks: %q", n, got)
		}
		p.Funcs[n].Blocks = []api.Block{}
		if got := told(types.Bounds(p)); got != "bound" {
			t.Errorf("P10.1: the function %d has an empty list of blocks: %q", n, got)
		}
	}
	p := great()
	p.Funcs = nil
	if got := told(types.Bounds(p)); got != "bound" {
		t.Errorf("P10.1: no functions: %q", got)
	}
	// All else may be without.
	if e := types.Bounds(one(api.Block{})); e != nil {
		t.Errorf("P10.1: nothing but a block: %v", e)
	}
}

// points gives a program of just n points, all of them ends, or in blocks that are as long as can be.
func points(n int, ends bool) *api.Program {
	p := &api.Program{}
	size := api.MaxCode + 1
	if ends {
		size = (n + api.MaxFuncs*api.MaxBlocks - 1) / (api.MaxFuncs * api.MaxBlocks)
	}
	var l []api.Block
	for ; n > 0; n -= size {
		l = append(l, even(1, min(n, size)-1)...)
	}
	for part := range slices.Chunk(l, api.MaxBlocks) {
		p.Funcs = append(p.Funcs, api.Func{Blocks: part})
	}
	return p
}

func TestPoints(t *testing.T) {
	for _, ends := range []bool{false, true} {
		for n := 1; n < 700; n++ {
			want := ""
			if n > 600 {
				want = "bound"
			}
			if got := told(types.Bounds(points(n, ends))); got != want {
				t.Fatalf("P10.1: %d points: %q", n, got)
			}
		}
	}
	// As much of all as each list may have.
	all := slices.Repeat([]api.Func{{Blocks: even(api.MaxBlocks, api.MaxCode)}}, api.MaxFuncs)
	if got := told(types.Bounds(&api.Program{Funcs: all})); got != "bound" {
		t.Errorf("P10.1: all limits at once: %q", got)
	}
}

// instrs gives all instructions of p, the last ones first.
func instrs(p *api.Program) []*api.Instr {
	var l []*api.Instr
	for _, f := range p.Funcs {
		for _, b := range f.Blocks {
			for i := range b.Code {
				l = append(l, &b.Code[i])
			}
		}
	}
	slices.Reverse(l)
	return l
}

// The OAllocs lie side by side, or here and there in all functions.
func TestSites(t *testing.T) {
	for _, step := range []int{1, 2, 7, 12} {
		p := points(590, false)
		l := instrs(p)
		for n := 1; n <= 45; n++ {
			l[n*step].Op = api.OAlloc
			want := ""
			if n > 40 {
				want = "bound"
			}
			if got := told(types.Bounds(p)); got != want {
				t.Fatalf("P10.1: %d sites: %q", n, got)
			}
		}
	}
	// Other instructions are no sites: here 34 of 571 are.
	p := points(590, false)
	for k, i := range instrs(p) {
		i.Op = k % 17
	}
	if e := types.Bounds(p); e != nil {
		t.Errorf("P10.1: instructions of all kinds: %v", e)
	}
}

// Bounds asks for no name and no type.
func TestBoundsAskNothingElse(t *testing.T) {
	for _, n := range noNames(0) {
		p := great()
		p.Main, p.Records[0][0], p.Sigs[0].Result, p.Ifaces[0].Sigs[0] = n, api.Type{Kind: n, N: n}, api.Type{Kind: n}, n
		p.Impls[0], p.Funcs[0].Sig, p.Funcs[0].Regs = api.Impl{Rec: n, Iface: n, Funcs: []int{n}}, n, []api.Type{{Kind: n}}
		p.Funcs[1].Blocks[0] = api.Block{Code: []api.Instr{{Op: n, Dst: n, A: n, B: n, N: n, Args: []int{n}}}, End: n, Reg: n, To: n, Else: n}
		if e := types.Bounds(p); e != nil {
			t.Errorf("P10.1: with %d at each place: %v", n, e)
		}
	}
	for k := range api.MaxParams + 1 {
		for op := range 17 {
			if e := types.Bounds(one(api.Block{Code: []api.Instr{{Op: op, Args: make([]int, k)}}})); e != nil {
				t.Errorf("P10.1: %s: %v", fmt.Sprint("the Op ", op, " with ", k, " Args"), e)
			}
		}
	}
}
