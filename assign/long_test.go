package assign_test

import (
	"fmt"
	"math"
	"reflect"
	"slices"
	"testing"

	"haruspex/api"
	"haruspex/assign"
	"haruspex/graph"
	"haruspex/types"
)

// Programs whose names are not right: nothing is promised but that the calls end and do not panic.
func TestWrongNames(t *testing.T) {
	values := []int{-1, -2, 5, 6, 16, 4999, 5000, 1 << 31, 1 << 32, math.MaxInt, math.MaxInt - 1, math.MinInt, math.MinInt + 1}
	count := len(numbers(reflect.ValueOf(mixed()).Elem()))
	for k := range count {
		for _, n := range values {
			p := mixed()
			numbers(reflect.ValueOf(p).Elem())[k].SetInt(int64(n))
			askAll(p)
			for f := range p.Funcs {
				if g := assign.Flow(p, f); !graph.May(g) || g.N != len(p.Funcs[f].Blocks) {
					t.Fatalf("P0.1: the number %d is %d: the flow %v of %d", k, n, g, f)
				}
				if l := assign.In(p, f); len(l) != len(p.Funcs[f].Blocks) {
					t.Fatalf("P0.1: the number %d is %d: %d sets of %d", k, n, len(l), f)
				}
			}
		}
	}
}

// Of registers that there are not none is told, whatever is assigned.
func TestNoRegisters(t *testing.T) {
	for _, r := range []int{-1, 3, 4, 63, 64, 4999, 5000, math.MaxInt, math.MinInt} {
		p := program(function(1, 3, jump(1, set(1, r)...), jump(1, set(r)...), gives(0)))
		if got := sets(assign.In(p, 0)); got != "[[0] [0 1] [0 1 2]]" {
			t.Errorf("P11.1: the register %d is assigned: In %s", r, got)
		}
		p = program(function(1, 3, jump(1), gives(r)))
		if got := told(assign.Check(p)); got != "assign 0.1.0" {
			t.Errorf("P11.1: the register %d is read: %q", r, got)
		}
		p = program(function(1, 3, gives(0), gives(r, read(r)...)))
		if got := told(assign.Check(p)); got != "" {
			t.Errorf("P11.1: the register %d is read where no way leads: %q", r, got)
		}
	}
}

// full gives a program that is as great as one may be: 12 functions of 12 blocks, 600 points, 16 registers.
func full() *api.Program {
	var l []api.Func
	for range api.MaxFuncs {
		fn := function(4, api.MaxRegs)
		for b := range api.MaxBlocks {
			fn.Blocks = append(fn.Blocks, branch(b, (b+1)%api.MaxBlocks, api.MaxBlocks-1, set(4+b)...))
		}
		l = append(l, fn)
	}
	l[0].Blocks[0].Code = slices.Repeat(set(4), api.MaxCode)
	for f := 1; ; f++ {
		for b := range l[f].Blocks {
			if left := api.MaxPoints - count(l); left > 0 {
				l[f].Blocks[b].Code = append(l[f].Blocks[b].Code, slices.Repeat(set(4+b), min(left, api.MaxCode-1))...)
			} else {
				return program(l...)
			}
		}
	}
}

// count tells how many points functions have.
func count(l []api.Func) int {
	n := 0
	for _, fn := range l {
		for _, b := range fn.Blocks {
			n += len(b.Code) + 1
		}
	}
	return n
}

func TestFull(t *testing.T) {
	p := full()
	if types.Bounds(p) != nil || types.Names(p) != nil || count(p.Funcs) != api.MaxPoints {
		t.Fatalf("the program of %d points is wrong: %v, %v", count(p.Funcs), types.Bounds(p), types.Names(p))
	}
	holdModel(t, p)
	want := "[[0 1 2 3] [0 1 2 3 4] [0 1 2 3 4 5] [0 1 2 3 4 5 6] [0 1 2 3 4 5 6 7] [0 1 2 3 4 5 6 7 8] [0 1 2 3 4 5 6 7 8 9] [0 1 2 3 4 5 6 7 8 9 10] [0 1 2 3 4 5 6 7 8 9 10 11] [0 1 2 3 4 5 6 7 8 9 10 11 12] [0 1 2 3 4 5 6 7 8 9 10 11 12 13] [0 1 2 3 4]]"
	for f := range p.Funcs {
		if got := sets(assign.In(p, f)); got != want {
			t.Errorf("P11.1: In of %d: %s", f, got)
		}
	}
	if got := told(assign.Shape(p)) + told(assign.Check(p)); got != "assign 0.11.1" {
		t.Errorf("P11.1: %q", got)
	}
	// The last point of all.
	for f := range p.Funcs {
		p.Funcs[f].Blocks[11].Reg = 15
	}
	p.Funcs[11].Blocks[11].Reg = 5
	if got := told(assign.Check(p)); got != "assign 11.11.1" {
		t.Errorf("P11.1: at the last point: %q", got)
	}
	p.Funcs[11].Blocks[10].To, p.Funcs[11].Blocks[0].Else = 0, 1
	for b := range 11 {
		p.Funcs[11].Blocks[b].Else = min(b+1, 10)
	}
	if got := told(assign.Shape(p)); got != "shape 11.11.0" {
		t.Errorf("P11.1: at the last block: %q", got)
	}
}

// Programs beyond the limits: nothing is promised but that the calls end and do not panic.
func TestLongLists(t *testing.T) {
	const n = 1 << 16
	ring := make([]api.Block, n)
	for b := range ring {
		ring[b] = branch(0, (b+1)%n, (b+n/2)%n)
	}
	for name, p := range map[string]*api.Program{
		"functions":    program(slices.Repeat([]api.Func{diamond()}, n/8)...),
		"no functions": {Funcs: make([]api.Func, n)},
		"blocks":       program(function(1, 2, ring...)),
		"600 blocks":   program(function(1, 5001, slices.Repeat([]api.Block{branch(0, 599, 300, set(4999)...)}, 600)...)),
		"601 blocks":   program(function(1, 2, slices.Repeat([]api.Block{branch(0, 599, 600)}, 601)...)),
		"registers":    program(function(1, n, jump(1, set(n-1)...), gives(n-1))),
		"instructions": program(function(1, 2, gives(0, slices.Repeat(set(1), n)...))),
		"arguments":    program(function(1, 2, gives(0, api.Instr{Op: api.OCallR, Args: make([]int, n)}))),
		"parameters": {Sigs: []api.Sig{{Params: make([]api.Type, n)}}, Funcs: []api.Func{
			function(0, 3, gives(2)), function(0, n, gives(2)),
		}},
		"signatures": {Sigs: make([]api.Sig, n), Funcs: []api.Func{function(n-1, 1, gives(0)), function(n, 1, gives(0))}},
	} {
		first := fmt.Sprint(told(assign.Shape(p)), told(assign.Check(p)), len(assign.In(p, 0)), assign.Flow(p, 0).N)
		if again := fmt.Sprint(told(assign.Shape(p)), told(assign.Check(p)), len(assign.In(p, 0)), assign.Flow(p, 0).N); again != first {
			t.Errorf("P0.5: long %s: %s, then %s", name, first, again)
		}
	}
	if got := assign.Flow(program(function(1, 2, ring...)), 0); got.N != n || len(got.To) != n || fmt.Sprint(got.To[n-1]) != fmt.Sprint([]int{0, n/2 - 1}) {
		t.Errorf("P11.1: the flow of a long function has %d blocks", got.N)
	}
}

// A way as long as graph walks one, each block behind the other.
func TestLongWay(t *testing.T) {
	fn := function(1, 600)
	for b := range 600 {
		fn.Blocks = append(fn.Blocks, jump(min(b+1, 599), set(b)...))
	}
	in := assign.In(program(fn), 0)
	for b := range in {
		if in[b].Len() != max(b, 1) || in[b].First(0) != 0 || in[b].Has(max(b, 1)) {
			t.Fatalf("P11.1: In of the block %d: %d registers", b, in[b].Len())
		}
	}
	if len(in) != 600 {
		t.Errorf("P11.1: %d sets", len(in))
	}
}
