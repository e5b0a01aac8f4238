package sem_test

import (
	"math"
	"reflect"
	"slices"
	"testing"

	"haruspex/api"
	"haruspex/ir"
	"haruspex/sem"
	"haruspex/wf"
)

// great gives a program with all kinds of instructions and ends; its run calls, sinks, frees and returns.
func great() *api.Program {
	p := base([]api.Type{num, num, ptr0, ptr1, fun1, iface1, fun3, ptr0},
		api.Block{Code: []api.Instr{
			{Op: api.OSource}, {Op: api.OConst, Dst: 1, N: -1}, {Op: api.OAlloc, Dst: 2}, {Op: api.OAlloc, Dst: 3}, {Op: api.OMake, Dst: 5, A: 3},
			{Op: api.OStore, A: 3, B: 5, N: 3}, {Op: api.OLoad, Dst: 5, A: 3, N: 3}, {Op: api.OFun, Dst: 6, N: second}, {Op: api.ONil, Dst: 7},
		}, End: api.EBranch, To: 1, Else: 2},
		api.Block{Code: []api.Instr{
			{Op: api.OCall, Dst: 4, N: alone}, {Op: api.OCallR, Dst: 7, A: 6, Args: []int{1, 2}}, {Op: api.OCallI, Dst: 1, A: 5, N: 1, Args: []int{0}},
			{Op: api.OSink, A: 1}, {Op: api.OFun, Dst: 4, N: field}, {Op: api.OCallR, Dst: 1, A: 4, Args: []int{7}}, {Op: api.OSink, A: 1}, {Op: api.OAdd, Dst: 0, A: 0, B: 1},
		}, End: api.EJump, To: 2},
		gives(0, api.Instr{Op: api.OCopy, Dst: 7, A: 2}, api.Instr{Op: api.OFree, A: 7}))
	return p
}

// isNone holds that the machine is as a nil one is.
func isNone(t *testing.T, m *sem.Machine) {
	t.Helper()
	for range 3 {
		if m.At() != -1 || m.Depth() != 0 || m.Heap() != nil || m.Called() != -1 || m.Sunk() || m.Result() != (api.Value{}) {
			t.Fatalf("P14.2: at %d with %d frames, heap %v, Called %d, Sunk %t, %v", m.At(), m.Depth(), m.Heap(), m.Called(), m.Sunk(), m.Result())
		}
		for _, r := range []int{0, 1, api.MaxRegs - 1, api.MaxRegs, -1, math.MinInt, math.MaxInt} {
			if v, ok := m.Reg(r); ok || v != (api.Value{}) {
				t.Fatalf("P14.2: register %d: %v, %t", r, v, ok)
			}
		}
		if why := m.Step(); why != api.AEnd {
			t.Fatalf("P14.1: the step gave %d", why)
		}
	}
}

func TestNil(t *testing.T) {
	var m *sem.Machine
	isNone(t, m)
	isNone(t, new(sem.Machine))
	isNone(t, sem.New(nil, nil))
	isNone(t, sem.New(nil, []int64{1, 2}))
}

func TestGreat(t *testing.T) {
	for n, want := range []api.Value{{Taint: true}, {N: 1, Taint: true}} {
		ops := map[int]int{}
		if why := hold(t, great(), []int64{int64(n)}, 100, ops); why != api.AEnd {
			t.Errorf("P14.1: %d", why)
		}
		if n > 0 && len(ops) != 18 {
			t.Errorf("the test is wrong: of the kinds of instructions and ends some are missing: %v", ops)
		}
		m := start(t, great(), int64(n))
		for m.Step() == 0 {
		}
		if m.Result() != want || !m.Heap().Freed(1) {
			t.Errorf("P14.2: %v, %s", m.Result(), heapText(m.Heap()))
		}
	}
}

// A program that may not be, for each reason.
func TestProgramsThatMayNotBe(t *testing.T) {
	for k, turn := range []func(p *api.Program){
		func(p *api.Program) { *p = api.Program{} },
		func(p *api.Program) { *p = api.Program{Funcs: []api.Func{{}}} },
		func(p *api.Program) { p.Funcs = nil },
		func(p *api.Program) { p.Records = append(p.Records, make([][]api.Type, api.MaxRecs)...) },
		func(p *api.Program) { p.Funcs[alone].Blocks = nil },
		func(p *api.Program) { p.Main = -1 },
		func(p *api.Program) { p.Main = len(p.Funcs) },
		func(p *api.Program) { p.Main = math.MinInt },
		func(p *api.Program) { p.Main = field },
		func(p *api.Program) { p.Main = alone },
		func(p *api.Program) { p.Sigs[7].Params = []api.Type{{Kind: 4}} },
		func(p *api.Program) { p.Funcs[theMain].Blocks[0].Code[1].Dst = 8 },
		func(p *api.Program) { p.Funcs[theMain].Blocks[0].Code[1].Op = 0 },
		func(p *api.Program) { p.Funcs[theMain].Blocks[0].Code[1].Op = 16 },
		func(p *api.Program) { p.Funcs[theMain].Blocks[0].Code[1].A = 1 },
		func(p *api.Program) { p.Funcs[theMain].Blocks[1].To = 3 },
		func(p *api.Program) { p.Funcs[theMain].Blocks[2].End = 4 },
		func(p *api.Program) { p.Funcs[theMain].Blocks[2].Reg = 2 },
		func(p *api.Program) { p.Funcs[theMain].Blocks[0].Code[1].Dst = 2 },
		func(p *api.Program) { p.Impls[0].Funcs = nil },
		func(p *api.Program) { p.Impls[0].Funcs[0] = field },
		func(p *api.Program) { p.Impls = append(p.Impls, p.Impls[0]) },
		func(p *api.Program) { p.Impls = p.Impls[:2] },
		func(p *api.Program) { p.Funcs[theMain].Blocks[0].To = 2 },
		func(p *api.Program) { p.Funcs[theMain].Blocks[0].Code[0].Dst = 1 },
		func(p *api.Program) { p.Funcs[alone].Blocks[0].Code = nil },
		func(p *api.Program) { p.Funcs = append(p.Funcs, api.Func{Sig: 9}) },
	} {
		p := great()
		turn(p)
		if wf.Check(p) == nil {
			t.Errorf("the test is wrong: %d may be", k)
		}
		isNone(t, sem.New(p, []int64{1, 2, 3}))
	}
}

// numbers gives all numbers of v, for writing.
func numbers(v reflect.Value) []reflect.Value {
	var l []reflect.Value
	switch v.Kind() {
	case reflect.Int:
		return []reflect.Value{v}
	case reflect.Struct:
		for k := range v.NumField() {
			l = append(l, numbers(v.Field(k))...)
		}
	case reflect.Slice:
		for k := range v.Len() {
			l = append(l, numbers(v.Index(k))...)
		}
	}
	return l
}

// Each number of great turned into each of some others: what may be runs as the model does, what may not is none.
func TestSpoilt(t *testing.T) {
	ran := 0
	for k := range numbers(reflect.ValueOf(great()).Elem()) {
		for _, n := range []int{-1, 0, 1, 2, 3, 4, 5, 6, 7, 8, 1 << 32, math.MinInt, math.MaxInt} {
			p := great()
			numbers(reflect.ValueOf(p).Elem())[k].SetInt(int64(n))
			if wf.Check(p) != nil {
				isNone(t, sem.New(p, nil))
				continue
			}
			hold(t, p, []int64{1}, 120, map[int]int{})
			ran++
		}
	}
	if ran < 100 {
		t.Errorf("the test is weak: %d ran", ran)
	}
}

func TestRegistersThatAreNone(t *testing.T) {
	m := start(t, great(), 1)
	for m.Step() == 0 {
		for _, r := range []int{8, 15, 16, 17, -1, -2, 1 << 8, 1 << 16, 1 << 32, 1<<32 + 1, -1 << 32, math.MinInt, math.MinInt + 1, math.MaxInt} {
			if v, ok := m.Reg(r); ok || v != (api.Value{}) {
				t.Errorf("P14.2: register %d: %v, %t", r, v, ok)
			}
		}
	}
}

// All limits of a program at once: 600 points, 12 blocks, 16 registers; main is the last function.
func TestLongPrograms(t *testing.T) {
	p := &api.Program{Sigs: []api.Sig{{}}}
	left := api.MaxPoints
	for f := range api.MaxFuncs {
		fn := api.Func{Regs: slices.Repeat([]api.Type{num}, api.MaxRegs)}
		for b := range min(api.MaxBlocks, (left-(api.MaxFuncs-1-f))/2) {
			code := slices.Repeat([]api.Instr{{Op: api.OConst, Dst: api.MaxRegs - 1, N: b}}, api.MaxCode)
			if f > 0 || left < 2*api.MaxCode {
				code = code[:1]
			}
			left -= len(code) + 1
			fn.Blocks = append(fn.Blocks, api.Block{Code: code, End: api.EJump, To: b + 1})
		}
		last := &fn.Blocks[len(fn.Blocks)-1]
		last.End, last.Reg, last.To = api.EReturn, api.MaxRegs-1, 0
		p.Funcs = append(p.Funcs, fn)
	}
	main := &p.Funcs[api.MaxFuncs-1].Blocks[0].Code
	for ; left > 0 && len(*main) < api.MaxCode; left-- {
		*main = append(*main, api.Instr{Op: api.OCall, Dst: left % api.MaxRegs, N: left % (api.MaxFuncs - 1)})
	}
	p.Main = api.MaxFuncs - 1
	if why := hold(t, p, nil, 1<<20, map[int]int{}); why != api.AEnd {
		t.Errorf("P14.1: %d", why)
	}
	m := start(t, p)
	for m.Step() == 0 {
	}
	if n := len(ir.Points(p)); n < api.MaxPoints-20 || m.At() != n-1 {
		t.Errorf("P14.2: at %d of %d points", m.At(), n)
	}
}

// Lists of any length: a long oracle is read to its end, and long lists of a program that may not be are no harm.
func TestLongLists(t *testing.T) {
	const n = 1_000_000
	oracle := make([]int64, n)
	for k := range oracle {
		oracle[k] = int64(k) - 5
	}
	m := start(t, base([]api.Type{num}, api.Block{Code: []api.Instr{{Op: api.OSource}}, End: api.EJump}), oracle...)
	for k := range n + 3 {
		walk(t, m, 2)
		want := api.Value{N: int64(k) - 5, Taint: true}
		if k >= n {
			want.N = 0
		}
		if v, ok := m.Reg(0); v != want || !ok {
			t.Fatalf("P14.1: number %d from without: %v, %t", k, v, ok)
		}
	}
	for _, p := range []*api.Program{
		{Funcs: make([]api.Func, n)},
		{Records: make([][]api.Type, n), Funcs: great().Funcs},
		{Funcs: []api.Func{{Blocks: []api.Block{{Code: make([]api.Instr, n)}}}}},
		{Funcs: []api.Func{{Regs: make([]api.Type, n), Blocks: make([]api.Block, n)}}},
	} {
		isNone(t, sem.New(p, oracle))
	}
}

// A run that ends nowhere goes on as long as it is told to.
func TestLongRuns(t *testing.T) {
	p := base([]api.Type{num, num, ptr0}, api.Block{Code: []api.Instr{{Op: api.OConst, Dst: 1, N: 1}, {Op: api.OConst}, {Op: api.OAlloc, Dst: 2}}, End: api.EJump, To: 1},
		api.Block{Code: []api.Instr{{Op: api.OAdd, B: 1}, {Op: api.OStore, A: 2, B: 0}, {Op: api.OCall, N: field, Args: []int{2}}}, End: api.EJump, To: 1})
	m := start(t, p)
	walk(t, m, 4)
	walk(t, m, 6*200_000)
	if v, _ := m.Reg(0); v != (api.Value{N: 200_000}) || m.Depth() != 1 || m.Heap().Len() != 1 {
		t.Errorf("P14.1: %v with %d frames", v, m.Depth())
	}
}
