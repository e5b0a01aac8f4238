package gen_test

import (
	"math"
	"reflect"
	"slices"
	"testing"

	"haruspex/api"
	"haruspex/gen"
	"haruspex/ir"
	"haruspex/wf"
)

// great gives a program with all kinds of instructions, ends and rules.
func great() *api.Program {
	p := base([]api.Type{num, num, ptr0, ptr1, fun1, iface1, fun3, ptr0},
		api.Block{Code: []api.Instr{
			{Op: api.OSource}, {Op: api.OConst, Dst: 1, N: -1}, {Op: api.OAlloc, Dst: 2}, {Op: api.OAlloc, Dst: 3}, {Op: api.OMake, Dst: 5, A: 3},
			{Op: api.OStore, A: 3, B: 5, N: 3}, {Op: api.OLoad, Dst: 5, A: 3, N: 3}, {Op: api.OFun, Dst: 6, N: second}, {Op: api.ONil, Dst: 7},
		}, End: api.EBranch, To: 1, Else: 2},
		api.Block{Code: []api.Instr{
			{Op: api.OCall, Dst: 4, N: alone}, {Op: api.OCallR, Dst: 7, A: 6, Args: []int{1, 2}}, {Op: api.OCallI, Dst: 1, A: 5, N: 1, Args: []int{0}},
			{Op: api.OSink, A: 1}, {Op: api.OFun, Dst: 4, N: field}, {Op: api.OCallR, Dst: 1, A: 4, Args: []int{7}}, {Op: api.OSink, A: 1}, {Op: api.OAdd, Dst: 0, A: 0, B: 1},
		}, End: api.EJump, To: 2},
		gives(0, api.Instr{Op: api.OCopy, Dst: 7, A: 2}, api.Instr{Op: api.OFree, A: 7}))
	return p
}

// around gives the numbers below n, some that are none, and far ones.
func around(n int) []int {
	l := []int{math.MinInt, math.MinInt + 1, -1 << 32, -2, -1, n, n + 1, n + 2, 1 << 31, 1 << 32, 1<<32 + 1, math.MaxInt - 1, math.MaxInt}
	for k := range n {
		l = append(l, k)
	}
	return l
}

// isNone holds that there are no rules of a program that may not be.
func isNone(t *testing.T, p *api.Program) {
	t.Helper()
	for _, f := range []int{math.MinInt, -1, 0, second, alone, theMain, theMain + 1, math.MaxInt} {
		if l := gen.Of(p, f); len(l) > 0 {
			t.Fatalf("P17.1: %d: %v of no program", f, l)
		}
		for _, at := range []int{-1, 0, p0 + 10, p0 + 11} {
			if l := gen.Call(p, at, f); len(l) > 0 {
				t.Fatalf("P17.1: %d, %d: %v of no program", at, f, l)
			}
		}
	}
}

func TestNil(t *testing.T) { isNone(t, nil) }

// great has rules of all kinds where isNone asks for them.
func TestGreat(t *testing.T) {
	p := great()
	x := hold(t, p)
	kinds := map[int]int{}
	for _, rule := range gen.Of(p, theMain) {
		kinds[rule.Kind]++
	}
	ops := map[int]bool{}
	for _, q := range x.points {
		ops[q.i.Op] = true
	}
	if len(kinds) != 6 || len(ops) != api.OSink+1 || len(gen.Call(p, p0+10, alone)) != 1 || len(gen.Call(p, p0+11, second)) != 2 {
		t.Errorf("the test is wrong: %v, %v of\n%s", kinds, ops, ir.Print(p))
	}
}

// A program that may not be, for each reason.
func TestProgramsThatMayNotBe(t *testing.T) {
	for k, turn := range []func(p *api.Program){
		func(p *api.Program) { *p = api.Program{} },
		func(p *api.Program) { *p = api.Program{Funcs: []api.Func{{}}} },
		func(p *api.Program) { p.Funcs = nil },
		func(p *api.Program) { p.Records = append(p.Records, make([][]api.Type, api.MaxRecs)...) },
		func(p *api.Program) { p.Funcs[alone].Blocks = nil },
		func(p *api.Program) { p.Main = -1 },
		func(p *api.Program) { p.Main = len(p.Funcs) },
		func(p *api.Program) { p.Main = math.MinInt },
		func(p *api.Program) { p.Main = field },
		func(p *api.Program) { p.Main = alone },
		func(p *api.Program) { p.Sigs[7].Params = []api.Type{{Kind: 4}} },
		func(p *api.Program) { p.Funcs[theMain].Blocks[0].Code[1].Dst = 8 },
		func(p *api.Program) { p.Funcs[theMain].Blocks[0].Code[1].Op = 0 },
		func(p *api.Program) { p.Funcs[theMain].Blocks[0].Code[1].Op = 16 },
		func(p *api.Program) { p.Funcs[theMain].Blocks[0].Code[1].A = 1 },
		func(p *api.Program) { p.Funcs[theMain].Blocks[1].To = 3 },
		func(p *api.Program) { p.Funcs[theMain].Blocks[2].End = 4 },
		func(p *api.Program) { p.Funcs[theMain].Blocks[2].Reg = 2 },
		func(p *api.Program) { p.Funcs[theMain].Blocks[0].Code[1].Dst = 2 },
		func(p *api.Program) { p.Impls[0].Funcs = nil },
		func(p *api.Program) { p.Impls[0].Funcs[0] = field },
		func(p *api.Program) { p.Impls = append(p.Impls, p.Impls[0]) },
		func(p *api.Program) { p.Impls = p.Impls[:1] },
		func(p *api.Program) { p.Funcs[theMain].Blocks[0].To = 2 },
		func(p *api.Program) { p.Funcs[theMain].Blocks[0].Code[0].Dst = 1 },
		func(p *api.Program) { p.Funcs[alone].Blocks[0].Code = nil },
		func(p *api.Program) { p.Funcs = append(p.Funcs, api.Func{Sig: 9}) },
		func(p *api.Program) { p.Sigs = append(p.Sigs, api.Sig{}) },
	} {
		p := great()
		turn(p)
		if wf.Check(p) == nil {
			t.Errorf("the test is wrong: %d may be", k)
		}
		isNone(t, p)
	}
}

// numbers gives all numbers of v, for writing.
func numbers(v reflect.Value) []reflect.Value {
	var l []reflect.Value
	switch v.Kind() {
	case reflect.Int:
		return []reflect.Value{v}
	case reflect.Struct:
		for k := range v.NumField() {
			l = append(l, numbers(v.Field(k))...)
		}
	case reflect.Slice:
		for k := range v.Len() {
			l = append(l, numbers(v.Index(k))...)
		}
	}
	return l
}

// Each number of great turned into each of some others: what may be is told as the model has it, what may not has no
// rules.
func TestSpoilt(t *testing.T) {
	were := 0
	for k := range numbers(reflect.ValueOf(great()).Elem()) {
		for _, n := range []int{-1, 0, 1, 2, 3, 4, 5, 6, 7, 8, 1 << 32, math.MinInt, math.MaxInt} {
			p := great()
			numbers(reflect.ValueOf(p).Elem())[k].SetInt(int64(n))
			if wf.Check(p) != nil {
				isNone(t, p)
				continue
			}
			hold(t, p)
			were++
		}
	}
	if were < 100 {
		t.Errorf("the test is weak: %d may be", were)
	}
}

// full gives a program with as many functions, blocks, registers, parameters, points and sites as there may be: all
// functions have one signature, and call each other and themselves.
func full() *api.Program {
	params := []api.Type{ptr0, num, fun0, ptr0}
	p := &api.Program{Records: [][]api.Type{{num, ptr0, fun0, num}}, Sigs: []api.Sig{{Params: params, Result: ptr0}, {}}, Main: api.MaxFuncs - 1}
	for f := range api.MaxFuncs {
		// 50 points: in 12 blocks their ends, and 38 instructions.
		fn := api.Func{Regs: append(slices.Clone(params), slices.Repeat([]api.Type{ptr0}, api.MaxRegs-4)...), Blocks: make([]api.Block, api.MaxBlocks)}
		for k := range fn.Blocks {
			fn.Blocks[k].End, fn.Blocks[k].To = api.EJump, min(k+1, api.MaxBlocks-1)
		}
		if f == p.Main {
			fn.Sig = 1
			fn.Blocks[0].Code = []api.Instr{{Op: api.ONil}, {Op: api.OConst, Dst: 1}, {Op: api.ONil, Dst: 2}, {Op: api.ONil, Dst: 3}}
		}
		for k := len(fn.Blocks[0].Code); k < 8; k++ {
			i := api.Instr{Op: api.OCall, Dst: 15, N: (f + k) % (api.MaxFuncs - 1), Args: []int{3, 1, 2, 0}}
			if k >= 5 || k == 4 && f < 4 {
				i = api.Instr{Op: api.OAlloc, Dst: 15 - k}
			}
			fn.Blocks[0].Code = append(fn.Blocks[0].Code, i)
		}
		fn.Blocks[f].Code = append(fn.Blocks[f].Code, slices.Repeat([]api.Instr{{Op: api.OCallR, Dst: 14, A: 2, Args: []int{0, 1, 2, 3}}}, 15)...)
		fn.Blocks[11-f].Code = append(fn.Blocks[11-f].Code, slices.Repeat([]api.Instr{{Op: api.OStore, A: 3, N: 1}}, 15)...)
		p.Funcs = append(p.Funcs, fn)
	}
	return p
}

func TestFull(t *testing.T) {
	p := full()
	x := hold(t, p)
	if len(x.points) != api.MaxPoints || x.sites != api.MaxSites {
		t.Errorf("the test is wrong: %d points, %d sites", len(x.points), x.sites)
	}
	// One more of each, and it may not be.
	p.Funcs[5].Blocks[0].Code[3] = api.Instr{Op: api.OAlloc}
	isNone(t, p)
	p = full()
	p.Funcs[7].Blocks[0].Code = append(p.Funcs[7].Blocks[0].Code, api.Instr{Op: api.ONil})
	isNone(t, p)
}

// Long lists of a program that may not be are no harm.
func TestLongLists(t *testing.T) {
	const n = 1_000_000
	for _, p := range []*api.Program{
		{Funcs: make([]api.Func, n)},
		{Records: make([][]api.Type, n), Funcs: great().Funcs},
		{Sigs: []api.Sig{{}}, Funcs: []api.Func{{Blocks: []api.Block{{Code: make([]api.Instr, n), End: api.EJump}}}}},
		{Sigs: []api.Sig{{}}, Funcs: []api.Func{{Regs: make([]api.Type, n), Blocks: make([]api.Block, n)}}},
	} {
		isNone(t, p)
	}
}
