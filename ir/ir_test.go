package ir_test

import (
	"fmt"
	"math"
	"reflect"
	"testing"

	"haruspex/api"
	"haruspex/ir"
)

// of gives a program of the functions with these blocks.
func of(funcs ...[]api.Block) *api.Program {
	p := &api.Program{}
	for _, blocks := range funcs {
		p.Funcs = append(p.Funcs, api.Func{Blocks: blocks})
	}
	return p
}

// code gives n instructions, each another constant.
func code(n int) []api.Instr {
	l := make([]api.Instr, n)
	for k := range l {
		l[k] = api.Instr{Op: api.OConst, N: k}
	}
	return l
}

// odd gives a program with empty functions, empty blocks, and points of all kinds of ends: 3 + 1 + 1, 2, 1 + 2 + 1 of them.
func odd() *api.Program {
	return of(
		nil,
		[]api.Block{
			{Code: code(2), End: api.EBranch, To: 2, Else: 1},
			{End: api.EJump, To: 0, Else: 2},
			{End: api.EReturn, To: 1, Else: 1},
		},
		[]api.Block{},
		[]api.Block{{Code: code(1), End: api.EBranch}},
		[]api.Block{{End: api.EJump, To: 3}, {Code: code(1), End: api.EBranch, To: 3, Else: 2}, {To: 1, Else: 1}},
		nil,
	)
}

// numbers are points of small programs, and numbers that are none.
func numbers() []int {
	return []int{0, 1, 2, 10, 11, 12, 599, 600, 1 << 32, 1<<32 + 1, math.MaxInt, -1, -2, math.MinInt + 1, math.MinInt}
}

// none are programs without points.
func none() map[string]*api.Program {
	return map[string]*api.Program{
		"nil":                 nil,
		"empty":               {},
		"an empty list":       {Funcs: []api.Func{}},
		"functions, no block": of(nil, []api.Block{}, nil),
		"all but functions":   {Records: [][]api.Type{{{}}}, Sigs: []api.Sig{{}}, Ifaces: []api.Iface{{}}, Impls: []api.Impl{{}}, Main: 3},
	}
}

func TestPoints(t *testing.T) {
	want := []api.Point{{F: 1}, {F: 1, I: 1}, {F: 1, I: 2}, {F: 1, B: 1}, {F: 1, B: 2}, {F: 3}, {F: 3, I: 1}, {F: 4}, {F: 4, B: 1}, {F: 4, B: 1, I: 1}, {F: 4, B: 2}}
	p := odd()
	if got := ir.Points(p); !reflect.DeepEqual(got, want) {
		t.Errorf("P8.1: Points: %v", got)
	}
	for n, q := range want {
		if got := ir.Number(p, q); got != n {
			t.Errorf("P8.1: Number %v: %d, want %d", q, got, n)
		}
	}
}

func TestNumberOfNoPoint(t *testing.T) {
	p := odd()
	for _, q := range []api.Point{
		{}, {F: 2}, {F: 5}, {F: 6}, {F: -1}, {F: math.MaxInt}, {F: math.MinInt}, {F: 1<<32 + 1},
		{F: 1, B: 3}, {F: 1, B: -1}, {F: 1, B: math.MaxInt}, {F: 1, B: math.MinInt}, {F: 1, B: 1 << 32},
		{F: 1, I: 3}, {F: 1, I: -1}, {F: 1, I: math.MaxInt}, {F: 1, I: math.MinInt}, {F: 1, I: 1 << 32}, {F: 1, B: 1, I: 1}, {F: 1, B: 1, I: -1}, {F: 4, B: 1, I: 2},
	} {
		if got := ir.Number(p, q); got != -1 {
			t.Errorf("P8.1: Number %v: %d", q, got)
		}
	}
}

func TestNoPoints(t *testing.T) {
	for name, p := range none() {
		if got := ir.Points(p); len(got) != 0 {
			t.Errorf("P8.1: %s: Points %v", name, got)
		}
		for _, n := range numbers() {
			if i, ok := ir.At(p, n); ok || !reflect.DeepEqual(i, api.Instr{}) {
				t.Errorf("P8.1: %s: At %d: %v, %t", name, n, i, ok)
			}
			if got := ir.Next(p, n); len(got) != 0 {
				t.Errorf("P8.1: %s: Next %d: %v", name, n, got)
			}
			for _, q := range []api.Point{{F: n}, {B: n}, {I: n}, {F: n, B: n, I: n}} {
				if got := ir.Number(p, q); got != -1 {
					t.Errorf("P8.1: %s: Number %v: %d", name, q, got)
				}
			}
		}
	}
	if ir.Points(nil) != nil || ir.Next(nil, 0) != nil {
		t.Error("P8.1: of a nil program not nil")
	}
}

func TestAt(t *testing.T) {
	p := odd()
	whole := api.Instr{Op: 77, Dst: -1, A: math.MinInt, B: 5, N: math.MaxInt, Args: []int{3, -3}}
	p.Funcs[1].Blocks[0].Code[1] = whole
	want := map[int]api.Instr{0: {Op: api.OConst}, 1: whole, 5: {Op: api.OConst}, 8: {Op: api.OConst}}
	for _, n := range append(numbers(), 3, 4, 5, 6, 7, 8, 9) {
		i, ok := ir.At(p, n)
		if w, there := want[n]; ok != there || !reflect.DeepEqual(i, w) {
			t.Errorf("P8.1: At %d: %v, %t", n, i, ok)
		}
	}
}

func TestNext(t *testing.T) {
	want := map[int][]int{0: {1}, 1: {2}, 2: {4, 3}, 3: {0}, 5: {6}, 6: {5}, 8: {9}, 9: {10}}
	for _, n := range append(numbers(), 3, 4, 5, 6, 7, 8, 9) {
		if got := ir.Next(odd(), n); fmt.Sprint(got) != fmt.Sprint(want[n]) {
			t.Errorf("P8.1: Next %d: %v, want %v", n, got, want[n])
		}
	}
}

func TestNextBehindAnEnd(t *testing.T) {
	for _, c := range []struct {
		name          string
		end, to, less int
		want          string
	}{
		{"a jump", api.EJump, 1, 2, "[6]"},
		{"a jump to itself", api.EJump, 0, 2, "[3]"},
		{"a jump to the last", api.EJump, 2, 0, "[7]"},
		{"a jump behind the last", api.EJump, 3, 0, "[]"},
		{"a jump to -1", api.EJump, -1, 0, "[]"},
		{"a jump to 2^32", api.EJump, 1 << 32, 0, "[]"},
		{"a jump to the greatest int", api.EJump, math.MaxInt, 0, "[]"},
		{"a jump to the least int", api.EJump, math.MinInt, 0, "[]"},
		{"a branch", api.EBranch, 1, 2, "[6 7]"},
		{"a branch, falling", api.EBranch, 2, 0, "[7 3]"},
		{"a branch to one", api.EBranch, 2, 2, "[7]"},
		{"a branch to itself", api.EBranch, 0, 0, "[3]"},
		{"a branch, To no block", api.EBranch, 3, 1, "[6]"},
		{"a branch, Else no block", api.EBranch, 1, -1, "[6]"},
		{"a branch, none a block", api.EBranch, -1, 3, "[]"},
		{"a branch, one that is no block", api.EBranch, 3, 3, "[]"},
		{"a return", api.EReturn, 1, 2, "[]"},
		{"0", 0, 1, 2, "[]"},
		{"4", 4, 1, 2, "[]"},
		{"-1", -1, 1, 2, "[]"},
		{"the greatest int", math.MaxInt, 1, 2, "[]"},
		{"the least int", math.MinInt, 1, 2, "[]"},
	} {
		p := of(
			[]api.Block{{Code: code(2)}},
			[]api.Block{{Code: code(2), End: c.end, To: c.to, Else: c.less}, {}, {Code: code(1)}},
			[]api.Block{{}, {}, {}, {}},
		)
		if got := fmt.Sprint(ir.Next(p, 5)); got != c.want {
			t.Errorf("P8.1: Next behind %s: %s, want %s", c.name, got, c.want)
		}
		if got := fmt.Sprint(ir.Next(p, 4)); got != "[5]" {
			t.Errorf("P8.1: Next ahead of %s: %s", c.name, got)
		}
	}
}

func TestDefAndUses(t *testing.T) {
	for _, c := range []struct {
		op   int
		def  bool
		uses string
	}{
		{api.OConst, true, "[]"},
		{api.OAdd, true, "[8 7]"},
		{api.OSource, true, "[]"},
		{api.ONil, true, "[]"},
		{api.OAlloc, true, "[]"},
		{api.OCopy, true, "[8]"},
		{api.OLoad, true, "[8]"},
		{api.OStore, false, "[8 7]"},
		{api.OFree, false, "[8]"},
		{api.OFun, true, "[]"},
		{api.OMake, true, "[8]"},
		{api.OCall, true, "[5 8 4 5]"},
		{api.OCallR, true, "[8 5 8 4 5]"},
		{api.OCallI, true, "[8 5 8 4 5]"},
		{api.OSink, false, "[8]"},
		{0, false, "[]"},
		{16, false, "[]"},
		{-1, false, "[]"},
		{1<<32 + 1, false, "[]"},
		{math.MaxInt, false, "[]"},
		{math.MinInt, false, "[]"},
	} {
		i := api.Instr{Op: c.op, Dst: 9, A: 8, B: 7, N: 6, Args: []int{5, 8, 4, 5}}
		want := 0
		if c.def {
			want = 9
		}
		if r, ok := ir.Def(i); r != want || ok != c.def {
			t.Errorf("P8.1: Def of %d: %d, %t", c.op, r, ok)
		}
		if got := fmt.Sprint(ir.Uses(i)); got != c.uses {
			t.Errorf("P8.1: Uses of %d: %s, want %s", c.op, got, c.uses)
		}
	}
}

func TestDefAndUsesOfWrongRegisters(t *testing.T) {
	for _, n := range numbers() {
		if r, ok := ir.Def(api.Instr{Op: api.OCallI, Dst: n}); r != n || !ok {
			t.Errorf("P8.1: Def: %d, %t, want %d", r, ok, n)
		}
		if got, want := fmt.Sprint(ir.Uses(api.Instr{Op: api.OAdd, A: n, B: n})), fmt.Sprint([]int{n, n}); got != want {
			t.Errorf("P8.1: Uses: %s, want %s", got, want)
		}
		if got, want := fmt.Sprint(ir.Uses(api.Instr{Op: api.OCallR, A: 1, Args: []int{n}})), fmt.Sprint([]int{1, n}); got != want {
			t.Errorf("P8.1: Uses: %s, want %s", got, want)
		}
	}
}

func TestCallsWithoutArgs(t *testing.T) {
	for op, want := range map[int]string{api.OCall: "[]", api.OCallR: "[3]", api.OCallI: "[3]"} {
		for _, args := range [][]int{nil, {}} {
			if got := fmt.Sprint(ir.Uses(api.Instr{Op: op, A: 3, Args: args})); got != want {
				t.Errorf("P0.4: Uses of %d without arguments: %s", op, got)
			}
		}
	}
}
