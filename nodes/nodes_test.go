package nodes_test

import (
	"fmt"
	"slices"
	"testing"

	"haruspex/api"
	"haruspex/ir"
	"haruspex/nodes"
	"haruspex/wf"
)

var (
	num    = api.Type{Kind: api.TInt}
	ptr0   = api.Type{Kind: api.TPtr}
	ptr1   = api.Type{Kind: api.TPtr, N: 1}
	ptr2   = api.Type{Kind: api.TPtr, N: 2}
	fun0   = api.Type{Kind: api.TFun}
	iface0 = api.Type{Kind: api.TIface}
)

// gives gives a block that returns r.
func gives(r int, code ...api.Instr) api.Block {
	return api.Block{Code: code, End: api.EReturn, Reg: r}
}

// forever gives a block of this code that goes to itself: a function with it needs no register to return.
func forever(code ...api.Instr) []api.Block {
	return []api.Block{{Code: code, End: api.EJump}}
}

// base gives a program of these functions, all without parameters. The record 0 has no field, 1 has one, 2 has four.
func base(funcs ...api.Func) *api.Program {
	return &api.Program{Records: [][]api.Type{{}, {ptr1}, {num, ptr0, fun0, num}}, Sigs: []api.Sig{{}}, Funcs: funcs}
}

// may holds that a test's program may be.
func may(t *testing.T, p *api.Program) {
	t.Helper()
	if err := wf.Check(p); err != nil {
		t.Fatalf("the test is wrong: %v", err)
	}
}

// tells holds what a Table tells, asked for all that it has and one more at each edge.
func tells(t *testing.T, p *api.Program, regs, rets, sites, cells, objects string) {
	t.Helper()
	may(t, p)
	n := nodes.New(p)
	var gotRegs, gotRets, gotCells, gotObjects []string
	for f := range p.Funcs {
		for r := range p.Funcs[f].Regs {
			gotRegs = append(gotRegs, fmt.Sprint(n.Reg(f, r)))
		}
		gotRegs = append(gotRegs, fmt.Sprint(n.Reg(f, -1), n.Reg(f, len(p.Funcs[f].Regs))))
		gotRets = append(gotRets, fmt.Sprint(n.Ret(f), n.Fun(f)))
	}
	gotRets = append(gotRets, fmt.Sprint(n.Ret(-1), n.Fun(-1), n.Ret(len(p.Funcs)), n.Fun(len(p.Funcs))))
	for at := range ir.Points(p) {
		for field := range api.MaxFields + 1 {
			if got := n.Cell(api.Cell{Site: at, Field: field}); got != -1 {
				gotCells = append(gotCells, fmt.Sprintf("%d.%d:%d", at, field, got))
			}
		}
		if rec := n.Rec(at); rec != -1 {
			gotCells = append(gotCells, fmt.Sprint("of ", rec))
		}
	}
	for o := -1; o <= len(n.Sites())+len(p.Funcs); o++ {
		x, ok := n.Object(o)
		gotObjects = append(gotObjects, fmt.Sprint(x, ok))
	}
	for _, x := range []struct {
		what, got, want string
	}{
		{"registers", fmt.Sprint(gotRegs), regs},
		{"Rets and Funs", fmt.Sprint(gotRets), rets},
		{"sites and Len", fmt.Sprint(n.Sites(), n.Len()), sites},
		{"cells", fmt.Sprint(gotCells), cells},
		{"objects", fmt.Sprint(gotObjects), objects},
	} {
		if x.got != x.want {
			t.Errorf("P16.1: %s: %s, want %s", x.what, x.got, x.want)
		}
	}
}

// Function by function its registers, ints too, then its Ret.
func TestRegistersAndRets(t *testing.T) {
	p := base(
		api.Func{Regs: []api.Type{num, ptr0, fun0}, Blocks: forever()},
		api.Func{Regs: []api.Type{num}, Blocks: []api.Block{gives(0, api.Instr{Op: api.OConst})}},
		api.Func{Regs: []api.Type{ptr2, num}, Blocks: forever()},
	)
	p.Main = 1
	tells(t, p, "[0 1 2 -1 -1 4 -1 -1 6 7 -1 -1]", "[3 0 5 1 8 2 -1 -1 -1 -1]", "[] 9", "[]", "[-1 false 0 false 1 false 2 false -1 false]")
}

// A function without registers has its Ret alone.
func TestNoRegisters(t *testing.T) {
	p := base(api.Func{Blocks: forever()}, api.Func{Regs: []api.Type{ptr1}, Blocks: forever()}, api.Func{Blocks: forever()})
	tells(t, p, "[-1 -1 1 -1 -1 -1 -1]", "[0 0 2 1 3 2 -1 -1 -1 -1]", "[] 4", "[]", "[-1 false 0 false 1 false 2 false -1 false]")
	p.Funcs = p.Funcs[:1]
	tells(t, p, "[-1 -1]", "[0 0 -1 -1 -1 -1]", "[] 1", "[]", "[-1 false 0 false -1 false]")
}

// Site by site, field by field, behind all registers and Rets; a record without fields has no cells, but its site is one.
func TestCells(t *testing.T) {
	regs := []api.Type{ptr0, ptr1, ptr2}
	make0, make1, make2 := api.Instr{Op: api.OAlloc}, api.Instr{Op: api.OAlloc, Dst: 1}, api.Instr{Op: api.OAlloc, Dst: 2}
	p := base(api.Func{Regs: regs, Blocks: forever(make2, make0, make1, make2)})
	tells(t, p, "[0 1 2 -1 -1]", "[3 4 -1 -1 -1 -1]", "[0 1 2 3] 13",
		"[0.0:4 0.1:5 0.2:6 0.3:7 of 2 of 0 2.0:8 of 1 3.0:9 3.1:10 3.2:11 3.3:12 of 2]",
		"[-1 false 0 true 1 true 2 true 3 true 0 false -1 false]")
	p = base(api.Func{Regs: regs, Blocks: forever(make0)})
	tells(t, p, "[0 1 2 -1 -1]", "[3 1 -1 -1 -1 -1]", "[0] 4", "[of 0]", "[-1 false 0 true 0 false -1 false]")
}

// Sites are those of all functions, in all blocks: by their points, whose numbers ends have too.
func TestSites(t *testing.T) {
	make1, make2 := api.Instr{Op: api.OAlloc, Dst: 1}, api.Instr{Op: api.OAlloc}
	regs := []api.Type{ptr2, ptr1}
	p := base(
		api.Func{Regs: regs, Blocks: forever(api.Instr{Op: api.ONil}, make1)},
		api.Func{Blocks: forever()},
		api.Func{Regs: regs[1:], Blocks: []api.Block{
			{End: api.EJump, To: 2},
			{Code: []api.Instr{{Op: api.OAlloc}, {Op: api.OLoad}, {Op: api.OAlloc}}, End: api.EJump, To: 1},
			{Code: []api.Instr{{Op: api.OAlloc}}, End: api.EJump, To: 1},
		}},
		api.Func{Regs: regs, Blocks: forever(make2, make1)},
	)
	p.Main = 2
	tells(t, p, "[0 1 -1 -1 -1 -1 4 -1 -1 6 7 -1 -1]", "[2 6 3 7 5 8 8 9 -1 -1 -1 -1]", "[1 5 7 9 11 12] 18",
		"[1.0:9 of 1 5.0:10 of 1 7.0:11 of 1 9.0:12 of 1 11.0:13 11.1:14 11.2:15 11.3:16 of 2 12.0:17 of 1]",
		"[-1 false 1 true 5 true 7 true 9 true 11 true 12 true 0 false 1 false 2 false 3 false -1 false]")
}

// Of all kinds of instructions OAlloc alone makes a site.
func TestOtherInstructions(t *testing.T) {
	p := great()
	may(t, p)
	var want []int
	kinds := map[int]bool{}
	for at := range ir.Points(p) {
		if i, ok := ir.At(p, at); ok {
			kinds[i.Op] = true
			if i.Op == api.OAlloc {
				want = append(want, at)
			}
		}
	}
	if got := nodes.New(p).Sites(); !slices.Equal(got, want) || len(want) != 4 || len(kinds) != api.OSink {
		t.Errorf("P16.1: sites %v, want %v", got, want)
	}
}

// great gives a program with all kinds of instructions, ends and types.
func great() *api.Program {
	fun1 := api.Type{Kind: api.TFun, N: 1}
	return &api.Program{
		Records: [][]api.Type{{}, {ptr1, num}, {num, ptr0, fun0, iface0}},
		Sigs:    []api.Sig{{}, {Params: []api.Type{ptr1}, Result: ptr2}, {Params: []api.Type{ptr1}}},
		Ifaces:  []api.Iface{{Sigs: []int{0}}},
		Impls:   []api.Impl{{Rec: 1, Funcs: []int{2}}},
		Main:    1,
		Funcs: []api.Func{
			{Sig: 1, Regs: []api.Type{ptr1, ptr2}, Blocks: []api.Block{gives(1, api.Instr{Op: api.OAlloc, Dst: 1})}},
			{Regs: []api.Type{num, ptr0, ptr1, ptr2, fun1, iface0}, Blocks: []api.Block{
				{Code: []api.Instr{
					{Op: api.OConst, N: 3}, {Op: api.OSource}, {Op: api.OAdd}, {Op: api.OAlloc, Dst: 2}, {Op: api.OAlloc, Dst: 1}, {Op: api.ONil, Dst: 3},
					{Op: api.OFun, Dst: 4}, {Op: api.OMake, Dst: 5, A: 2}, {Op: api.OStore, A: 2, B: 2},
				}, End: api.EBranch, To: 1, Else: 2},
				{Code: []api.Instr{
					{Op: api.OLoad, Dst: 2, A: 2}, {Op: api.OCopy, Dst: 1, A: 1}, {Op: api.OCall, Dst: 3, Args: []int{2}}, {Op: api.OCallR, Dst: 3, A: 4, Args: []int{2}},
					{Op: api.OCallI, A: 5},
				}, End: api.EJump, To: 2},
				gives(0, api.Instr{Op: api.OAlloc, Dst: 3}, api.Instr{Op: api.OFree, A: 2}, api.Instr{Op: api.OSink}),
			}},
			{Sig: 2, Regs: []api.Type{ptr1, num}, Blocks: []api.Block{gives(1, api.Instr{Op: api.OConst, Dst: 1})}},
		},
	}
}
