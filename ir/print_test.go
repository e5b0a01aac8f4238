package ir_test

import (
	"math"
	"strings"
	"testing"

	"haruspex/api"
	"haruspex/ir"
)

func TestLine(t *testing.T) {
	for _, c := range []struct {
		i    api.Instr
		want string
	}{
		{api.Instr{Op: api.OConst, Dst: 1, N: 5}, "r1 = const 5"},
		{api.Instr{Op: api.OConst, Dst: 0, N: 0}, "r0 = const 0"},
		{api.Instr{Op: api.OConst, Dst: 15, N: math.MinInt}, "r15 = const -9223372036854775808"},
		{api.Instr{Op: api.OConst, Dst: 15, N: math.MaxInt}, "r15 = const 9223372036854775807"},
		{api.Instr{Op: api.OAdd, Dst: 1, A: 2, B: 3}, "r1 = add r2 r3"},
		{api.Instr{Op: api.OSource, Dst: 1}, "r1 = source"},
		{api.Instr{Op: api.ONil, Dst: 1}, "r1 = nil"},
		{api.Instr{Op: api.OAlloc, Dst: 1}, "r1 = new"},
		{api.Instr{Op: api.OCopy, Dst: 1, A: 2}, "r1 = r2"},
		{api.Instr{Op: api.OLoad, Dst: 1, A: 2}, "r1 = r2.0"},
		{api.Instr{Op: api.OLoad, Dst: -1, A: -2, N: -3}, "r-1 = r-2.-3"},
		{api.Instr{Op: api.OStore, A: 2, B: 3}, "r2.0 = r3"},
		{api.Instr{Op: api.OFree, A: 2}, "free r2"},
		{api.Instr{Op: api.OFun, Dst: 1, N: 3}, "r1 = func 3"},
		{api.Instr{Op: api.OMake, Dst: 1, A: 2}, "r1 = iface r2"},
		{api.Instr{Op: api.OCall, Dst: 1, N: 3, Args: []int{1, 2}}, "r1 = call 3(r1, r2)"},
		{api.Instr{Op: api.OCall, Dst: 1, N: 3}, "r1 = call 3()"},
		{api.Instr{Op: api.OCall, Dst: 1, N: -3, Args: []int{}}, "r1 = call -3()"},
		{api.Instr{Op: api.OCallR, Dst: 1, A: 4, Args: []int{1}}, "r1 = call r4(r1)"},
		{api.Instr{Op: api.OCallR, Dst: 1, A: 4}, "r1 = call r4()"},
		{api.Instr{Op: api.OCallI, Dst: 1, A: 4, Args: []int{1}}, "r1 = call r4.0(r1)"},
		{api.Instr{Op: api.OCallI, Dst: 1, A: 4, N: 2, Args: []int{3, 3, -1}}, "r1 = call r4.2(r3, r3, r-1)"},
		{api.Instr{Op: api.OSink, A: 2}, "sink r2"},
		{api.Instr{}, "?"},
	} {
		if got := ir.Line(c.i); got != c.want {
			t.Errorf("P8.2: Line: %q, want %q", got, c.want)
		}
	}
}

func TestLineOfNone(t *testing.T) {
	for _, op := range []int{0, 16, 17, 77, -1, -15, 1<<32 + 1, math.MaxInt, math.MinInt} {
		if got := ir.Line(api.Instr{Op: op, Dst: 1, A: 2, B: 3, N: 4, Args: []int{5}}); got != "?" {
			t.Errorf("P8.2: Line of %d: %q", op, got)
		}
	}
}

func TestPrint(t *testing.T) {
	want := []string{
		"func 0",
		"func 1",
		"  block 0",
		"    r0 = const 0",
		"    r0 = const 1",
		"    branch r0 2 1",
		"  block 1",
		"    jump 0",
		"  block 2",
		"    return r0",
		"func 2",
		"func 3",
		"  block 0",
		"    r0 = const 0",
		"    branch r0 0 0",
		"func 4",
		"  block 0",
		"    jump 3",
		"  block 1",
		"    r0 = const 0",
		"    branch r0 3 2",
		"  block 2",
		"    ?",
		"func 5",
		"",
	}
	if got := ir.Print(odd()); got != strings.Join(want, "\n") {
		t.Errorf("P8.2: Print: %s", got)
	}
}

func TestPrintEnds(t *testing.T) {
	for _, c := range []struct {
		b    api.Block
		want string
	}{
		{api.Block{End: api.EJump, Reg: 7, To: 1, Else: 3}, "jump 1"},
		{api.Block{End: api.EJump, To: -1}, "jump -1"},
		{api.Block{End: api.EBranch, Reg: 1, To: 2, Else: 3}, "branch r1 2 3"},
		{api.Block{End: api.EBranch, Reg: 15, To: 2, Else: 2}, "branch r15 2 2"},
		{api.Block{End: api.EBranch, Reg: -1, To: math.MaxInt, Else: -2}, "branch r-1 9223372036854775807 -2"},
		{api.Block{End: api.EReturn, Reg: 1, To: 2, Else: 3}, "return r1"},
		{api.Block{End: api.EReturn, Reg: math.MinInt}, "return r-9223372036854775808"},
		{api.Block{Reg: 1, To: 2, Else: 3}, "?"},
		{api.Block{End: 4, Reg: 1, To: 2, Else: 3}, "?"},
		{api.Block{End: -1}, "?"},
		{api.Block{End: math.MaxInt}, "?"},
		{api.Block{End: math.MinInt}, "?"},
		{api.Block{End: 1<<32 + 1}, "?"},
	} {
		if got := ir.Print(of([]api.Block{c.b})); got != "func 0\n  block 0\n    "+c.want+"\n" {
			t.Errorf("P8.2: Print: %q, want %q", got, c.want)
		}
		c.b.Code = []api.Instr{{Op: 99}, {Op: api.OSink, A: 2}}
		if got := ir.Print(of([]api.Block{c.b})); got != "func 0\n  block 0\n    ?\n    sink r2\n    "+c.want+"\n" {
			t.Errorf("P8.2: Print: %q, want %q", got, c.want)
		}
	}
}

func TestPrintOfNoPoints(t *testing.T) {
	for name, p := range none() {
		want := ""
		if name == "functions, no block" {
			want = "func 0\nfunc 1\nfunc 2\n"
		}
		if got := ir.Print(p); got != want {
			t.Errorf("P8.2: %s: Print %q", name, got)
		}
	}
}
