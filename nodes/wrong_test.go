package nodes_test

import (
	"math"
	"reflect"
	"slices"
	"testing"

	"haruspex/api"
	"haruspex/nodes"
	"haruspex/wf"
)

// isNone holds what is told of no program.
func isNone(t *testing.T, n *nodes.Table) {
	t.Helper()
	if n.Len() != 0 || len(n.Sites()) > 0 {
		t.Fatalf("P16.1: %d, %v of no program", n.Len(), n.Sites())
	}
	for _, k := range around(3) {
		x, ok := n.Object(k)
		if ok || x != -1 || n.Ret(k) != -1 || n.Fun(k) != -1 || n.Rec(k) != -1 {
			t.Fatalf("P16.1: %d: %d, %v, %d, %d, %d of no program", k, x, ok, n.Ret(k), n.Fun(k), n.Rec(k))
		}
		for _, m := range around(3) {
			if n.Reg(k, m) != -1 || n.Cell(api.Cell{Site: k, Field: m}) != -1 {
				t.Fatalf("P16.1: %d, %d: %d, %d of no program", k, m, n.Reg(k, m), n.Cell(api.Cell{Site: k, Field: m}))
			}
		}
	}
}

func TestNil(t *testing.T) {
	isNone(t, nil)
	isNone(t, new(nodes.Table))
	if n := nodes.New(nil); n != nil {
		t.Error("P16.1: a Table of no program")
	}
}

func TestGreat(t *testing.T) { hold(t, great()) }

// A program that may not be, for each reason.
func TestProgramsThatMayNotBe(t *testing.T) {
	for k, turn := range []func(p *api.Program){
		func(p *api.Program) { *p = api.Program{} },
		func(p *api.Program) { *p = api.Program{Funcs: []api.Func{{}}} },
		func(p *api.Program) { p.Funcs = nil },
		func(p *api.Program) { p.Records = append(p.Records, make([][]api.Type, api.MaxRecs)...) },
		func(p *api.Program) { p.Funcs[0].Blocks = nil },
		func(p *api.Program) { p.Main = -1 },
		func(p *api.Program) { p.Main = len(p.Funcs) },
		func(p *api.Program) { p.Main = math.MinInt },
		func(p *api.Program) { p.Main = 0 },
		func(p *api.Program) { p.Sigs[2].Params = []api.Type{{Kind: 4}} },
		func(p *api.Program) { p.Funcs[1].Blocks[0].Code[3].Dst = 6 },
		func(p *api.Program) { p.Funcs[1].Blocks[0].Code[3].Dst = -1 },
		func(p *api.Program) { p.Funcs[1].Blocks[0].Code[3].Dst = 0 },
		func(p *api.Program) { p.Funcs[1].Blocks[0].Code[3].Dst = 4 },
		func(p *api.Program) { p.Funcs[1].Blocks[0].Code[3].A = 1 },
		func(p *api.Program) { p.Funcs[1].Blocks[0].Code[3].Op = 0 },
		func(p *api.Program) { p.Funcs[1].Blocks[0].Code[3].Op = 16 },
		func(p *api.Program) { p.Funcs[1].Regs[2].N = 3 },
		func(p *api.Program) { p.Funcs[1].Regs[2].N = -1 },
		func(p *api.Program) { p.Funcs[1].Blocks[1].To = 3 },
		func(p *api.Program) { p.Funcs[1].Blocks[2].End = 4 },
		func(p *api.Program) { p.Funcs[1].Blocks[2].Reg = 2 },
		func(p *api.Program) { p.Impls[0].Funcs = nil },
		func(p *api.Program) { p.Impls[0].Funcs[0] = 0 },
		func(p *api.Program) { p.Impls = append(p.Impls, p.Impls[0]) },
		func(p *api.Program) { p.Impls = nil },
		func(p *api.Program) { p.Funcs[1].Blocks[0].To = 2 },
		func(p *api.Program) { p.Funcs[1].Blocks[0].Code[0].Op = api.OCopy },
		func(p *api.Program) { p.Funcs[0].Blocks[0].Code = nil },
		func(p *api.Program) { p.Funcs = append(p.Funcs, api.Func{Sig: 9}) },
	} {
		p := great()
		turn(p)
		if wf.Check(p) == nil {
			t.Errorf("the test is wrong: %d may be", k)
		}
		isNone(t, nodes.New(p))
	}
}

// numbers gives all numbers of v, for writing.
func numbers(v reflect.Value) []reflect.Value {
	var l []reflect.Value
	switch v.Kind() {
	case reflect.Int:
		return []reflect.Value{v}
	case reflect.Struct:
		for k := range v.NumField() {
			l = append(l, numbers(v.Field(k))...)
		}
	case reflect.Slice:
		for k := range v.Len() {
			l = append(l, numbers(v.Index(k))...)
		}
	}
	return l
}

// Each number of great turned into each of some others: what may be is told as the model has it, what may not is none.
func TestSpoilt(t *testing.T) {
	were := 0
	for k := range numbers(reflect.ValueOf(great()).Elem()) {
		for _, n := range []int{-1, 0, 1, 2, 3, 4, 5, 6, 7, 8, 1 << 32, math.MinInt, math.MaxInt} {
			p := great()
			numbers(reflect.ValueOf(p).Elem())[k].SetInt(int64(n))
			if wf.Check(p) != nil {
				isNone(t, nodes.New(p))
				continue
			}
			hold(t, p)
			were++
		}
	}
	if were < 100 {
		t.Errorf("the test is weak: %d may be", were)
	}
}

// full gives a program with as many functions, registers, points and sites as there may be, each site of four fields;
// its last instruction is one of them.
func full() *api.Program {
	rec := []api.Type{num, num, ptr0, num}
	p := &api.Program{Sigs: []api.Sig{{}}, Records: slices.Repeat([][]api.Type{rec}, api.MaxRecs), Main: 5}
	ptr5 := api.Type{Kind: api.TPtr, N: api.MaxRecs - 1}
	for f := range api.MaxFuncs {
		// 50 points: in 12 blocks their ends, and 38 instructions.
		fn := api.Func{Regs: slices.Repeat([]api.Type{ptr5}, api.MaxRegs), Blocks: make([]api.Block, api.MaxBlocks)}
		for k := range fn.Blocks {
			fn.Blocks[k].End, fn.Blocks[k].To = api.EJump, min(k+1, api.MaxBlocks-1)
		}
		fn.Blocks[f].Code = slices.Repeat([]api.Instr{{Op: api.ONil, Dst: 15}}, 30)
		more := slices.Repeat([]api.Instr{{Op: api.ONil, Dst: f}}, 8)
		for k := range 3 {
			more[7-k] = api.Instr{Op: api.OAlloc, Dst: k}
		}
		if f < 4 {
			more[0].Op = api.OAlloc
		}
		fn.Blocks[api.MaxBlocks-1-f].Code = more
		if f == api.MaxFuncs-1 {
			fn.Blocks[f].Code, fn.Blocks[0].Code = fn.Blocks[0].Code, fn.Blocks[f].Code
		}
		p.Funcs = append(p.Funcs, fn)
	}
	return p
}

func TestFull(t *testing.T) {
	x := hold(t, full())
	if x.nodes != 12*17+40*4 || len(x.sites) != api.MaxSites || x.points != api.MaxPoints || x.sites[39] != api.MaxPoints-2 {
		t.Errorf("the test is wrong: %d nodes, sites %v, %d points", x.nodes, x.sites, x.points)
	}
	// One more of each, and it may not be.
	p := full()
	p.Funcs[0].Blocks[0].Code[0].Op = api.OAlloc
	isNone(t, nodes.New(p))
	p = full()
	p.Funcs[0].Blocks[1].Code = []api.Instr{{Op: api.ONil}}
	isNone(t, nodes.New(p))
	p = full()
	p.Funcs[3].Regs = append(p.Funcs[3].Regs, num)
	isNone(t, nodes.New(p))
}

// Long lists of a program that may not be are no harm.
func TestLongLists(t *testing.T) {
	const n = 1_000_000
	for _, p := range []*api.Program{
		{Funcs: make([]api.Func, n)},
		{Records: make([][]api.Type, n), Funcs: great().Funcs},
		{Sigs: []api.Sig{{}}, Funcs: []api.Func{{Blocks: forever(make([]api.Instr, n)...)}}},
		{Sigs: []api.Sig{{}}, Funcs: []api.Func{{Regs: make([]api.Type, n), Blocks: make([]api.Block, n)}}},
	} {
		isNone(t, nodes.New(p))
	}
}
