package trace_test

import (
	"math"
	"reflect"
	"slices"
	"testing"

	"haruspex/api"
	"haruspex/ir"
	"haruspex/trace"
	"haruspex/wf"
)

// great gives a program with all kinds of instructions and ends; its run calls, sinks, frees and returns.
func great() *api.Program {
	p := base([]api.Type{num, num, ptr0, ptr1, fun1, iface1, fun3, ptr0},
		api.Block{Code: []api.Instr{
			{Op: api.OSource}, {Op: api.OConst, Dst: 1, N: -1}, {Op: api.OAlloc, Dst: 2}, {Op: api.OAlloc, Dst: 3}, {Op: api.OMake, Dst: 5, A: 3},
			{Op: api.OStore, A: 3, B: 5, N: 3}, {Op: api.OLoad, Dst: 5, A: 3, N: 3}, {Op: api.OFun, Dst: 6, N: second}, {Op: api.ONil, Dst: 7},
		}, End: api.EBranch, To: 1, Else: 2},
		api.Block{Code: []api.Instr{
			{Op: api.OCall, Dst: 4, N: alone}, {Op: api.OCallR, Dst: 7, A: 6, Args: []int{1, 2}}, {Op: api.OCallI, Dst: 1, A: 5, N: 1, Args: []int{0}},
			{Op: api.OSink, A: 1}, {Op: api.OFun, Dst: 4, N: field}, {Op: api.OCallR, Dst: 1, A: 4, Args: []int{7}}, {Op: api.OSink, A: 1}, {Op: api.OAdd, Dst: 0, A: 0, B: 1},
		}, End: api.EJump, To: 2},
		gives(0, api.Instr{Op: api.OCopy, Dst: 7, A: 2}, api.Instr{Op: api.OFree, A: 7}))
	return p
}

// isNone holds what is told of no program: no machine ends at once, at no point.
func isNone(t *testing.T, p *api.Program, oracle []int64) {
	t.Helper()
	for _, fuel := range []int{math.MinInt, -1, 0, 1, 2, 99, 3000, 3001, math.MaxInt} {
		l, steps, why := trace.Run(p, oracle, fuel)
		if fuel <= 0 && (len(l) > 0 || steps != 0 || why != api.AFuel) {
			t.Fatalf("P15.1: fuel %d: %v, %d, %d", fuel, l, steps, why)
		}
		if fuel > 0 && (!slices.Equal(l, []trace.Event{{At: -1, Kind: 4, N: api.AEnd}}) || steps != 1 || why != api.AEnd) {
			t.Fatalf("P15.1: fuel %d: %v, %d, %d", fuel, l, steps, why)
		}
		if alarms, calls := trace.Alarms(p, oracle, fuel), trace.Calls(p, oracle, fuel); len(alarms)+len(calls) > 0 {
			t.Fatalf("P15.1: fuel %d: %v, %v", fuel, alarms, calls)
		}
	}
}

func TestNil(t *testing.T) {
	isNone(t, nil, nil)
	isNone(t, nil, []int64{1, 2})
}

func TestGreat(t *testing.T) {
	for n := range 2 {
		x := hold(t, great(), []int64{int64(n)}, 100)
		if x.why != api.AEnd || n > 0 && (len(x.ops) != api.OSink || len(x.calls) != 4 || len(x.alarms) != 1) {
			t.Errorf("the test is wrong: %d, %v, %v, %v", x.why, x.ops, x.calls, x.alarms)
		}
	}
}

// A program that may not be, for each reason.
func TestProgramsThatMayNotBe(t *testing.T) {
	for k, turn := range []func(p *api.Program){
		func(p *api.Program) { *p = api.Program{} },
		func(p *api.Program) { *p = api.Program{Funcs: []api.Func{{}}} },
		func(p *api.Program) { p.Funcs = nil },
		func(p *api.Program) { p.Records = append(p.Records, make([][]api.Type, api.MaxRecs)...) },
		func(p *api.Program) { p.Funcs[alone].Blocks = nil },
		func(p *api.Program) { p.Main = -1 },
		func(p *api.Program) { p.Main = len(p.Funcs) },
		func(p *api.Program) { p.Main = math.MinInt },
		func(p *api.Program) { p.Main = field },
		func(p *api.Program) { p.Main = alone },
		func(p *api.Program) { p.Sigs[7].Params = []api.Type{{Kind: 4}} },
		func(p *api.Program) { p.Funcs[theMain].Blocks[0].Code[1].Dst = 8 },
		func(p *api.Program) { p.Funcs[theMain].Blocks[0].Code[1].Op = 0 },
		func(p *api.Program) { p.Funcs[theMain].Blocks[0].Code[1].Op = 16 },
		func(p *api.Program) { p.Funcs[theMain].Blocks[0].Code[1].A = 1 },
		func(p *api.Program) { p.Funcs[theMain].Blocks[1].To = 3 },
		func(p *api.Program) { p.Funcs[theMain].Blocks[2].End = 4 },
		func(p *api.Program) { p.Funcs[theMain].Blocks[2].Reg = 2 },
		func(p *api.Program) { p.Funcs[theMain].Blocks[0].Code[1].Dst = 2 },
		func(p *api.Program) { p.Impls[0].Funcs = nil },
		func(p *api.Program) { p.Impls[0].Funcs[0] = field },
		func(p *api.Program) { p.Impls = append(p.Impls, p.Impls[0]) },
		func(p *api.Program) { p.Impls = p.Impls[:2] },
		func(p *api.Program) { p.Funcs[theMain].Blocks[0].To = 2 },
		func(p *api.Program) { p.Funcs[theMain].Blocks[0].Code[0].Dst = 1 },
		func(p *api.Program) { p.Funcs[alone].Blocks[0].Code = nil },
		func(p *api.Program) { p.Funcs = append(p.Funcs, api.Func{Sig: 9}) },
	} {
		p := great()
		turn(p)
		if wf.Check(p) == nil {
			t.Errorf("the test is wrong: %d may be", k)
		}
		isNone(t, p, []int64{1, 2, 3})
	}
}

// numbers gives all numbers of v, for writing.
func numbers(v reflect.Value) []reflect.Value {
	var l []reflect.Value
	switch v.Kind() {
	case reflect.Int:
		return []reflect.Value{v}
	case reflect.Struct:
		for k := range v.NumField() {
			l = append(l, numbers(v.Field(k))...)
		}
	case reflect.Slice:
		for k := range v.Len() {
			l = append(l, numbers(v.Index(k))...)
		}
	}
	return l
}

// Each number of great turned into each of some others: what may be is told as the model has it, what may not is none.
func TestSpoilt(t *testing.T) {
	ran := 0
	for k := range numbers(reflect.ValueOf(great()).Elem()) {
		for _, n := range []int{-1, 0, 1, 2, 3, 4, 5, 6, 7, 8, 1 << 32, math.MinInt, math.MaxInt} {
			p := great()
			numbers(reflect.ValueOf(p).Elem())[k].SetInt(int64(n))
			if wf.Check(p) != nil {
				isNone(t, p, []int64{1})
				continue
			}
			hold(t, p, []int64{1}, 120)
			ran++
		}
	}
	if ran < 100 {
		t.Errorf("the test is weak: %d ran", ran)
	}
}

// chain gives a function of 12 blocks and 16 registers that go one into the next; the block k has so many instructions.
func chain(size func(k int) int) api.Func {
	fn := api.Func{Regs: slices.Repeat([]api.Type{num}, api.MaxRegs)}
	for k := range api.MaxBlocks {
		code := slices.Repeat([]api.Instr{{Op: api.OConst, Dst: api.MaxRegs - 1, N: k}}, size(k))
		fn.Blocks = append(fn.Blocks, api.Block{Code: code, End: api.EJump, To: k + 1})
	}
	last := &fn.Blocks[api.MaxBlocks-1]
	last.End, last.Reg, last.To = api.EReturn, api.MaxRegs-1, 0
	return fn
}

// A program of 600 points in 12 functions of 12 blocks; main is the last one and calls all others.
func TestLongPrograms(t *testing.T) {
	p := &api.Program{Sigs: []api.Sig{{}}, Main: api.MaxFuncs - 1}
	p.Funcs = append(p.Funcs, chain(func(int) int { return 28 }))
	for range api.MaxFuncs - 2 {
		p.Funcs = append(p.Funcs, chain(func(k int) int { return 1 - min(k, 1) }))
	}
	main := chain(func(k int) int { return []int{0, 11, 11, 11, 11, 11, 11, 11, 11, 11, 0, 11}[k] })
	for k := range main.Blocks[11].Code {
		main.Blocks[11].Code[k] = api.Instr{Op: api.OCall, Dst: k, N: 10 - k}
	}
	p.Funcs = append(p.Funcs, main)
	x := hold(t, p, nil, 3000)
	l, _, _ := trace.Run(p, nil, 3000)
	if n := len(ir.Points(p)); n != api.MaxPoints || x.why != api.AEnd || len(x.calls) != 11 || l[len(l)-1].At != n-1 {
		t.Errorf("P15.1: %d, %d calls, %v of %d points", x.why, len(x.calls), l[len(l)-1], n)
	}
}

// Lists of any length: as much of a long oracle is read as there are steps for; long lists of a program that may not be
// are no harm.
func TestLongLists(t *testing.T) {
	const n = 1_000_000
	oracle := slices.Repeat([]int64{-3}, n)
	oracle[1499] = 0
	p := base([]api.Type{num}, api.Block{Code: []api.Instr{{Op: api.OSource}}, End: api.EBranch, Else: 1}, gives(0))
	for fuel, steps := range map[int]int{2999: 2999, 3000: 3000, 3001: 3000} {
		if l, got, why := trace.Run(p, oracle, fuel); len(l) != 0 || got != steps || why != api.AFuel {
			t.Errorf("P15.1: fuel %d: %v, %d, %d", fuel, l, got, why)
		}
	}
	oracle[1498] = 0
	if l, got, why := trace.Run(p, oracle, 3000); len(l) != 1 || got != 2999 || why != api.AEnd {
		t.Errorf("P15.1: %v, %d, %d", l, got, why)
	}
	for _, p := range []*api.Program{
		{Funcs: make([]api.Func, n)},
		{Records: make([][]api.Type, n), Funcs: great().Funcs},
		{Funcs: []api.Func{{Blocks: []api.Block{{Code: make([]api.Instr, n)}}}}},
		{Funcs: []api.Func{{Regs: make([]api.Type, n), Blocks: make([]api.Block, n)}}},
	} {
		isNone(t, p, oracle[:9])
	}
}
