package assign_test

import (
	"errors"
	"fmt"
	"math"
	"slices"
	"testing"

	"haruspex/api"
	"haruspex/assign"
	"haruspex/bitset"
	"haruspex/graph"
	"haruspex/refuse"
)

// told tells a refusal, all of it: its reason, its place and, if there is some, what it wraps.
func told(err error) string {
	var x *refuse.Error
	switch {
	case err == nil:
		return ""
	case !errors.As(err, &x) || error(x) != err:
		return "no refusal"
	case x.Inner != nil:
		return fmt.Sprint(x.Why, x.At, x.Inner)
	}
	return fmt.Sprintf("%s %d.%d.%d", refuse.Name(x.Why), x.At.F, x.At.B, x.At.I)
}

// sets tells sets as lists.
func sets(l []*bitset.Set) string {
	all := [][]int{}
	for _, s := range l {
		all = append(all, s.All())
	}
	return fmt.Sprint(all)
}

// function gives a function of so many parameters and registers, all of them numbers: its signature is that number.
func function(params, regs int, blocks ...api.Block) api.Func {
	return api.Func{Sig: params, Regs: make([]api.Type, regs), Blocks: blocks}
}

// program gives one of these functions, with signatures of 0 to 4 parameters.
func program(l ...api.Func) *api.Program {
	p := &api.Program{Funcs: l}
	for n := range api.MaxParams + 1 {
		p.Sigs = append(p.Sigs, api.Sig{Params: make([]api.Type, n)})
	}
	return p
}

// set gives code that assigns these registers and reads none.
func set(regs ...int) []api.Instr {
	var l []api.Instr
	for _, r := range regs {
		l = append(l, api.Instr{Op: api.OConst, Dst: r})
	}
	return l
}

// read gives code that reads these registers and assigns none.
func read(regs ...int) []api.Instr {
	var l []api.Instr
	for _, r := range regs {
		l = append(l, api.Instr{Op: api.OSink, A: r})
	}
	return l
}

func jump(to int, code ...api.Instr) api.Block {
	return api.Block{Code: code, End: api.EJump, To: to}
}

func branch(reg, to, other int, code ...api.Instr) api.Block {
	return api.Block{Code: code, End: api.EBranch, Reg: reg, To: to, Else: other}
}

func gives(reg int, code ...api.Instr) api.Block {
	return api.Block{Code: code, End: api.EReturn, Reg: reg}
}

// diamond gives a function of 2 parameters and 6 registers: 2 is assigned ahead of the fork, 3 on both sides, 4 on one,
// 5 behind them.
func diamond() api.Func {
	return function(2, 6,
		branch(0, 2, 1, set(2)...),
		jump(3, set(3)...),
		jump(3, set(4, 3)...),
		gives(3, set(5)...),
	)
}

func TestFlow(t *testing.T) {
	p := program(diamond(), function(0, 1, gives(0, set(0)...)), function(0, 1,
		branch(0, 0, 1), branch(0, 2, 2), jump(2), branch(0, 4, 0), branch(0, 0, 4),
	))
	for f, want := range []string{"{4 [[2 1] [3] [3] []]}", "{1 [[]]}", "{5 [[0 1] [2] [2] [4 0] [0 4]]}"} {
		if got := fmt.Sprint(assign.Flow(p, f)); got != want {
			t.Errorf("P11.1: the flow of %d is %s, want %s", f, got, want)
		}
		if !graph.May(assign.Flow(p, f)) {
			t.Errorf("P11.1: the flow of %d is no graph", f)
		}
	}
}

// What does not count at an end is no edge.
func TestFlowOfWhatDoesNotCount(t *testing.T) {
	all := api.Block{Reg: 1, To: 1, Else: 2}
	for end, want := range map[int]string{api.EJump: "[1]", api.EBranch: "[1 2]", api.EReturn: "[]", 0: "[]", 4: "[]", -1: "[]"} {
		all.End = end
		if got := fmt.Sprint(assign.Flow(program(function(0, 2, all, gives(0), gives(0))), 0).To[0]); got != want {
			t.Errorf("P11.1: edges of the end %d: %s, want %s", end, got, want)
		}
	}
}

func TestNoFunction(t *testing.T) {
	p := program(diamond(), diamond())
	for _, f := range []int{-1, 2, 3, 1 << 32, 1<<32 + 1, math.MaxInt, math.MinInt} {
		if g := assign.Flow(p, f); g.N != 0 || g.To != nil {
			t.Errorf("P0.2: the flow of %d: %v", f, g)
		}
		if l := assign.In(p, f); len(l) != 0 {
			t.Errorf("P0.2: In of %d: %s", f, sets(l))
		}
	}
}

// Each of the four at no program and at programs of nothing.
func TestNoProgram(t *testing.T) {
	for _, p := range []*api.Program{nil, {}, {Funcs: []api.Func{}}, {Funcs: []api.Func{{}, {}}}, program(function(3, 2))} {
		for f := -1; f < 3; f++ {
			if g := assign.Flow(p, f); g.N != 0 || len(g.To) != 0 {
				t.Errorf("P0.1: the flow of %d without blocks: %v", f, g)
			}
			if l := assign.In(p, f); len(l) != 0 {
				t.Errorf("P0.1: In of %d without blocks: %s", f, sets(l))
			}
		}
		if e := assign.Shape(p); e != nil {
			t.Errorf("P0.1: Shape without blocks: %v", e)
		}
		if e := assign.Check(p); e != nil {
			t.Errorf("P0.1: Check without blocks: %v", e)
		}
	}
}

func TestShape(t *testing.T) {
	far := function(0, 1, jump(4, set(0)...), gives(0), gives(0, read(0)...), gives(0), jump(2))
	for k, x := range []struct {
		p    *api.Program
		want string
	}{
		{program(diamond()), ""},
		{program(function(0, 1, gives(0))), ""},
		{program(function(0, 1, gives(0), gives(0))), "shape 0.1.0"},
		{program(function(0, 1, jump(0), gives(0))), "shape 0.1.0"},
		{program(diamond(), diamond(), function(0, 1, branch(0, 2, 0), gives(0, set(0, 0)...), gives(0))), "shape 2.1.0"},
		{program(far), "shape 0.1.0"},
		{program(diamond(), far, far), "shape 1.1.0"},
		{program(function(0, 1, branch(0, 1, 3), jump(0), gives(0), jump(1))), "shape 0.2.0"},
		// An edge from a block that is not reached is none of a way.
		{program(function(0, 1, jump(2), jump(3), jump(4), jump(1), gives(0))), "shape 0.1.0"},
		{program(function(0, 1, jump(1), jump(2), jump(3), gives(0))), ""},
		{program(function(0, 1, branch(0, 1, 1), branch(0, 2, 2), gives(0), jump(3))), "shape 0.3.0"},
		// What Shape does not ask: assignments, types, what nobody calls.
		{program(function(0, 3, gives(2, read(0, 1)...))), ""},
		// What does not count at a return is no edge.
		{program(function(0, 1, api.Block{End: api.EReturn, To: 1, Else: 1}, gives(0))), "shape 0.1.0"},
		{program(function(0, 1, api.Block{End: api.EJump, To: 0, Else: 1}, gives(0))), "shape 0.1.0"},
	} {
		if got := told(assign.Shape(x.p)); got != x.want {
			t.Errorf("P11.1: %d: Shape %q, want %q", k, got, x.want)
		}
	}
}

func TestIn(t *testing.T) {
	for k, x := range []struct {
		fn   api.Func
		want string
	}{
		{diamond(), "[[0 1] [0 1 2] [0 1 2] [0 1 2 3]]"},
		{function(0, 0, gives(0)), "[[]]"},
		{function(0, 1, gives(0, set(0)...)), "[[]]"},
		{function(4, 4, gives(0)), "[[0 1 2 3]]"},
		{function(4, 16, gives(0, set(15)...)), "[[0 1 2 3]]"},
		// Block 0 again: at the function's beginning nothing but parameters is assigned.
		{function(1, 3, branch(0, 0, 1, set(1)...), jump(0, set(2)...)), "[[0] [0 1]]"},
		// A loop: on the way that does not go round, 2 is not assigned.
		{function(1, 3, jump(1, set(1)...), branch(0, 2, 3), jump(1, set(2)...), gives(0)), "[[0] [0 1] [0 1] [0 1]]"},
		// A loop that assigns ahead of its fork.
		{function(1, 3, jump(1), branch(0, 2, 3, set(2)...), jump(1, set(1)...), gives(0)), "[[0] [0] [0 2] [0 2]]"},
		// Two sides, each with a register of its own, and both with one.
		{function(1, 4, branch(0, 1, 2), jump(3, set(1, 3)...), jump(3, set(3, 2)...), gives(0)), "[[0] [0] [0] [0 3]]"},
		// One block behind both edges of a fork.
		{function(1, 2, branch(0, 1, 1, set(1)...), gives(1)), "[[0] [0 1]]"},
		// A way round a block.
		{function(1, 2, branch(0, 1, 2), jump(2, set(1)...), gives(1)), "[[0] [0] [0]]"},
		// Blocks that are not reached have all registers, and take none from others.
		{function(1, 3, jump(2, set(1)...), jump(2), gives(1), jump(2)), "[[0] [0 1 2] [0 1] [0 1 2]]"},
		{function(0, 3, gives(0), jump(1), jump(1, set(0)...)), "[[] [0 1 2] [0 1 2]]"},
		// A parameter that is assigned again.
		{function(2, 3, branch(0, 1, 2, set(0)...), jump(2, set(1)...), gives(1)), "[[0 1] [0 1] [0 1]]"},
		// What an instruction reads it need not have assigned.
		{function(0, 2, jump(1, read(0, 1)...), gives(0)), "[[] []]"},
		// More parameters than registers.
		{function(4, 2, jump(1), gives(0)), "[[0 1] [0 1]]"},
		{function(4, 0, jump(1), gives(0), gives(0)), "[[] [] []]"},
	} {
		if got := sets(assign.In(program(diamond(), x.fn), 1)); got != x.want {
			t.Errorf("P11.1: %d: In %s, want %s", k, got, x.want)
		}
	}
}

// The parameters are those of the function's own signature.
func TestParameters(t *testing.T) {
	var l []api.Func
	for n := range api.MaxParams + 1 {
		l = append(l, function(n, 4, branch(0, 1, 2), gives(0), gives(0), gives(0)))
	}
	p := program(l...)
	for n := range l {
		have := fmt.Sprint([]int{0, 1, 2, 3}[:n])
		if got, want := sets(assign.In(p, n)), fmt.Sprint("[", have, " ", have, " ", have, " [0 1 2 3]]"); got != want {
			t.Errorf("P11.1: %d parameters: In %s, want %s", n, got, want)
		}
	}
}

// kinds gives an instruction of each kind, with what it reads (numbers from 1 on) and what it assigns (0; else -1).
func kinds() []struct {
	i    api.Instr
	uses []int
	def  int
} {
	return []struct {
		i    api.Instr
		uses []int
		def  int
	}{
		{api.Instr{Op: api.OConst, N: 7}, nil, 0},
		{api.Instr{Op: api.OAdd, A: 1, B: 2}, []int{1, 2}, 0},
		{api.Instr{Op: api.OSource}, nil, 0},
		{api.Instr{Op: api.ONil}, nil, 0},
		{api.Instr{Op: api.OAlloc}, nil, 0},
		{api.Instr{Op: api.OCopy, A: 2}, []int{2}, 0},
		{api.Instr{Op: api.OLoad, A: 3, N: 4}, []int{3}, 0},
		{api.Instr{Op: api.OStore, A: 2, B: 3, N: 4}, []int{2, 3}, -1},
		{api.Instr{Op: api.OFree, A: 1}, []int{1}, -1},
		{api.Instr{Op: api.OFun, N: 1}, nil, 0},
		{api.Instr{Op: api.OMake, A: 4}, []int{4}, 0},
		{api.Instr{Op: api.OCall, N: 3, Args: []int{1, 2, 4, 5}}, []int{1, 2, 4, 5}, 0},
		{api.Instr{Op: api.OCall, N: 3}, nil, 0},
		{api.Instr{Op: api.OCallR, A: 4, Args: []int{5, 1}}, []int{4, 5, 1}, 0},
		{api.Instr{Op: api.OCallI, A: 2, N: 3, Args: []int{3}}, []int{2, 3}, 0},
		{api.Instr{Op: api.OSink, A: 5}, []int{5}, -1},
	}
}

// Each kind of instruction: it reads just what it reads, and what it assigns is assigned behind it.
func TestKinds(t *testing.T) {
	const regs = 6
	for _, x := range kinds() {
		for missing := range regs {
			var have []int
			for r := range regs {
				if r != missing {
					have = append(have, r)
				}
			}
			want := ""
			if slices.Contains(x.uses, missing) {
				want = "assign 1.1.2"
			}
			code := []api.Instr{{Op: api.OFun, Dst: have[0], N: missing}, {Op: api.OSink, A: have[1]}, x.i}
			fn := function(0, regs, jump(1, set(have...)...), jump(1, code...))
			if got := told(assign.Check(program(diamond(), fn))); got != want {
				t.Errorf("P11.1: %+v, all but %d are assigned: %q, want %q", x.i, missing, got, want)
			}
			// What it defines may be read behind it, in its block and in the next one.
			gives0 := function(0, regs, jump(1, append(set(1, 2, 3, 4, 5), x.i)...), gives(0))
			inBlock := function(0, regs, gives(0, append(set(1, 2, 3, 4, 5), x.i)...))
			want0, want1 := "", ""
			if x.def < 0 {
				want0, want1 = "assign 0.1.0", "assign 0.0.6"
			}
			if got := told(assign.Check(program(gives0))); got != want0 {
				t.Errorf("P11.1: behind the block of %+v: %q, want %q", x.i, got, want0)
			}
			if got := told(assign.Check(program(inBlock))); got != want1 {
				t.Errorf("P11.1: behind %+v: %q, want %q", x.i, got, want1)
			}
		}
	}
}

// An instruction that is none reads nothing and assigns nothing.
func TestNoKind(t *testing.T) {
	for _, op := range []int{0, -1, 16, math.MaxInt, math.MinInt} {
		none := api.Instr{Op: op, Dst: 1, A: 2, B: 3, Args: []int{4, 5}}
		if got := told(assign.Check(program(function(1, 6, gives(0, none))))); got != "" {
			t.Errorf("P0.1: the Op %d reads: %q", op, got)
		}
		if got := told(assign.Check(program(function(1, 6, gives(1, none))))); got != "assign 0.0.1" {
			t.Errorf("P0.1: the Op %d assigns: %q", op, got)
		}
	}
}

func TestCheck(t *testing.T) {
	add := func(d, a, b int) api.Instr { return api.Instr{Op: api.OAdd, Dst: d, A: a, B: b} }
	for k, x := range []struct {
		fn   api.Func
		want string
	}{
		{diamond(), ""},
		{function(0, 1, gives(0)), "assign 1.0.0"},
		{function(1, 1, gives(0)), ""},
		{function(0, 1, gives(0, set(0)...)), ""},
		{function(0, 2, gives(0, set(1, 1)...)), "assign 1.0.2"},
		// An instruction reads ahead of assigning.
		{function(0, 1, gives(0, add(0, 0, 0))), "assign 1.0.0"},
		{function(1, 2, gives(0, add(1, 0, 1))), "assign 1.0.0"},
		{function(1, 2, gives(0, add(1, 1, 0))), "assign 1.0.0"},
		{function(1, 2, gives(1, add(1, 0, 0), add(1, 1, 1))), ""},
		// Behind it, not ahead of it.
		{function(0, 2, gives(0, append(read(1), set(0, 1)...)...)), "assign 1.0.0"},
		{function(0, 2, gives(0, append(set(0, 1), read(0, 1)...)...)), ""},
		// Ends: a jump reads nothing, a branch and a return read Reg.
		{function(0, 3, api.Block{End: api.EJump, Reg: 2, To: 1}, gives(0, set(0)...)), ""},
		{function(0, 3, branch(2, 1, 1), gives(0, set(0)...)), "assign 1.0.0"},
		{function(0, 3, branch(2, 1, 1, set(2, 0)...), gives(0)), ""},
		{function(0, 3, branch(2, 1, 1, set(2)...), gives(0)), "assign 1.1.0"},
		{function(0, 3, branch(2, 1, 1, set(2)...), gives(2, set(0, 1)...)), ""},
		// One side only.
		{function(1, 2, branch(0, 1, 2, read(0)...), jump(2, set(1)...), gives(1, read(0)...)), "assign 1.2.1"},
		{function(1, 2, branch(0, 1, 2, read(0)...), jump(2, set(1)...), gives(0, read(0, 0, 1)...)), "assign 1.2.2"},
		{function(1, 2, branch(0, 2, 1), jump(3, set(1)...), jump(3, set(1)...), gives(1)), ""},
		{function(1, 2, branch(0, 2, 1), jump(3, set(1)...), jump(3), gives(1)), "assign 1.3.0"},
		// Round a loop it is assigned, but not the first time.
		{function(1, 2, jump(1), branch(1, 1, 2, set(0)...), gives(0)), "assign 1.1.1"},
		{function(1, 2, jump(1), branch(0, 1, 2, append(read(1), set(1)...)...), gives(0)), "assign 1.1.0"},
		{function(1, 2, jump(1, set(1)...), branch(0, 1, 2, append(read(1), set(1)...)...), gives(1)), ""},
		{function(0, 1, branch(0, 0, 0, set(0)...)), ""},
		{function(0, 2, branch(0, 0, 0, append(set(0), read(1)...)...)), "assign 1.0.1"},
		// The first by its number, not the first on a way.
		{function(1, 3, jump(2, set(1)...), gives(2), branch(2, 1, 1)), "assign 1.1.0"},
		{function(1, 3, jump(2, set(1)...), jump(2, read(1, 1, 2)...), branch(2, 1, 1)), "assign 1.1.2"},
		// Blocks that are not reached are not asked.
		{function(1, 2, gives(0), gives(1, read(1)...)), ""},
		{function(1, 2, jump(2), branch(1, 1, 2, read(1)...), gives(0)), ""},
		{function(1, 2, jump(2), branch(1, 1, 2, read(1)...), gives(0, read(1)...)), "assign 1.2.0"},
		// A parameter of which there is no register is none.
		{function(4, 1, gives(0)), ""},
	} {
		if got := told(assign.Check(program(diamond(), x.fn))); got != x.want {
			t.Errorf("P11.1: %d: Check %q, want %q", k, got, x.want)
		}
		// Ahead of another fault.
		if x.want == "" {
			x.want = "assign 2.0.0"
		}
		if got := told(assign.Check(program(diamond(), x.fn, function(0, 1, gives(0))))); got != x.want {
			t.Errorf("P11.1: %d, then a fault: Check %q, want %q", k, got, x.want)
		}
	}
}

// Shape and Check ask each their own: what one refuses is not the other's matter.
func TestApart(t *testing.T) {
	p := program(function(0, 1, gives(0), gives(0)))
	if got, want := told(assign.Shape(p))+" "+told(assign.Check(p)), "shape 0.1.0 assign 0.0.0"; got != want {
		t.Errorf("P11.1: %q, want %q", got, want)
	}
}

// Two refusals are found by errors.Is, as others.
func TestReasons(t *testing.T) {
	p := program(function(0, 1, gives(0), gives(0)))
	if !errors.Is(assign.Shape(p), &refuse.Error{Why: api.WhyShape}) || !errors.Is(assign.Check(p), &refuse.Error{Why: api.WhyAssign}) {
		t.Errorf("P11.1: %v, %v", assign.Shape(p), assign.Check(p))
	}
	if errors.Unwrap(assign.Shape(p)) != nil || errors.Unwrap(assign.Check(p)) != nil {
		t.Errorf("P0.2: a refusal wraps something")
	}
}
