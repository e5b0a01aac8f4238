package gen_test

import (
	"fmt"
	"testing"

	"haruspex/api"
	"haruspex/gen"
	"haruspex/ir"
	"haruspex/wf"
)

var (
	num    = api.Type{Kind: api.TInt}
	ptr0   = api.Type{Kind: api.TPtr}
	ptr1   = api.Type{Kind: api.TPtr, N: 1}
	fun0   = api.Type{Kind: api.TFun}
	fun1   = api.Type{Kind: api.TFun, N: 1}
	fun3   = api.Type{Kind: api.TFun, N: 3}
	iface0 = api.Type{Kind: api.TIface}
	iface1 = api.Type{Kind: api.TIface, N: 1}
	iface2 = api.Type{Kind: api.TIface, N: 2}
)

// The functions of base by what they do; main is the last one.
const (
	field   = iota // gives its record's field 0; its nodes are 0 to 2
	eleven         // gives 11, without following its record; 3 to 5
	second         // gives its second argument, a pointer; 6 to 9
	same           // gives its second argument, a number; 10 to 12
	twice          // gives its second argument, a number, and that again; 13 to 15
	alone          // takes nothing and gives nil; 16 and 17
	third          // gives its third argument, a pointer; 18 to 21
	own            // gives its record; 22 to 25
	theMain        // main; its nodes are those from r0 on, its points those from p0 on
)

const (
	r0 = 26
	p0 = 12
)

// gives gives a block that returns r.
func gives(r int, code ...api.Instr) api.Block {
	return api.Block{Code: code, End: api.EReturn, Reg: r}
}

// base gives a program with a main of these registers and blocks. Interface 0 has one method, 1 has two; of the record 0
// they are field and same, of the record 1 eleven and twice. Of interface 2 they are own and third.
func base(regs []api.Type, blocks ...api.Block) *api.Program {
	return &api.Program{
		Records: [][]api.Type{{num, ptr0, ptr1}, {iface0, fun1, num, iface1}},
		Sigs: []api.Sig{
			{},
			{Params: []api.Type{ptr0}},
			{Params: []api.Type{ptr1}},
			{Params: []api.Type{num, ptr0}, Result: ptr0},
			{Params: []api.Type{ptr0, num}},
			{Params: []api.Type{ptr1, num}},
			{Params: []api.Type{num}},
			{Result: fun1},
			{Params: []api.Type{ptr1, num, ptr0}, Result: ptr0},
			{Params: []api.Type{ptr0, num, ptr0}, Result: ptr0},
		},
		Ifaces: []api.Iface{{Sigs: []int{0}}, {Sigs: []int{0, 6}}, {Sigs: []int{3}}},
		Impls: []api.Impl{
			{Rec: 1, Iface: 0, Funcs: []int{eleven}},
			{Rec: 0, Iface: 0, Funcs: []int{field}},
			{Rec: 1, Iface: 1, Funcs: []int{eleven, twice}},
			{Rec: 0, Iface: 1, Funcs: []int{field, same}},
			{Rec: 1, Iface: 2, Funcs: []int{third}},
			{Rec: 0, Iface: 2, Funcs: []int{own}},
		},
		Funcs: []api.Func{
			{Sig: 1, Regs: []api.Type{ptr0, num}, Blocks: []api.Block{gives(1, api.Instr{Op: api.OLoad, Dst: 1})}},
			{Sig: 2, Regs: []api.Type{ptr1, num}, Blocks: []api.Block{gives(1, api.Instr{Op: api.OConst, Dst: 1, N: 11})}},
			{Sig: 3, Regs: []api.Type{num, ptr0, num}, Blocks: []api.Block{gives(1)}},
			{Sig: 4, Regs: []api.Type{ptr0, num}, Blocks: []api.Block{gives(1)}},
			{Sig: 5, Regs: []api.Type{ptr1, num}, Blocks: []api.Block{gives(1, api.Instr{Op: api.OAdd, Dst: 1, A: 1, B: 1})}},
			{Sig: 7, Regs: []api.Type{fun1}, Blocks: []api.Block{gives(0, api.Instr{Op: api.ONil})}},
			{Sig: 8, Regs: []api.Type{ptr1, num, ptr0}, Blocks: []api.Block{gives(2)}},
			{Sig: 9, Regs: []api.Type{ptr0, num, ptr0}, Blocks: []api.Block{gives(0)}},
			{Regs: regs, Blocks: blocks},
		},
		Main: theMain,
	}
}

// may holds that a test's program may be.
func may(t *testing.T, p *api.Program) {
	t.Helper()
	if err := wf.Check(p); err != nil {
		t.Fatalf("the test is wrong: %v", err)
	}
}

// The registers of one's main, all of which have a value.
const (
	n0, n1 = 0, 1   // ints
	a0, a1 = 2, 3   // to the record 0
	b0, b1 = 4, 5   // to the record 1
	f0, f1 = 6, 7   // of the signature 1, as field
	g0     = 8      // of the signature 3, as second
	h0     = 9      // of the signature 7, as alone
	z0     = 10     // of the signature 0
	i0, i1 = 11, 12 // the interface 0
	j0, j1 = 13, 14 // the interface 1
	k0     = 15     // the interface 2
	first  = 28     // the point behind what gives them values
)

// one gives a program with a main of these registers that has this code, from the point first on.
func one(code ...api.Instr) *api.Program {
	regs := []api.Type{num, num, ptr0, ptr0, ptr1, ptr1, fun1, fun1, fun3, {Kind: api.TFun, N: 7}, fun0, iface0, iface0, iface1, iface1, iface2}
	var begin []api.Instr
	for r := range regs {
		begin = append(begin, api.Instr{Op: api.ONil, Dst: r})
	}
	begin[n0].Op, begin[n1].Op = api.OConst, api.OSource
	return base(regs, gives(n0, append(begin, code...)...))
}

// are holds rules of a program that may be.
func are(t *testing.T, what string, p *api.Program, got []gen.Rule, want ...gen.Rule) {
	t.Helper()
	may(t, p)
	if got, want := fmt.Sprintf("%+v", got), fmt.Sprintf("%+v", want); got != want {
		t.Errorf("P17.1: %s: %s, want %s of\n%s", what, got, want, ir.Print(p))
	}
}

// TestInstructions holds what each kind of instruction of main, alone, has for rules.
func TestInstructions(t *testing.T) {
	for _, x := range []struct {
		i    api.Instr
		want []gen.Rule
	}{
		{api.Instr{Op: api.OConst, Dst: n1, N: 3}, nil},
		{api.Instr{Op: api.OAdd, Dst: n1, A: n0, B: n1}, nil},
		{api.Instr{Op: api.OSource, Dst: n1}, nil},
		{api.Instr{Op: api.ONil, Dst: a1}, nil},
		{api.Instr{Op: api.OAlloc, Dst: a1}, []gen.Rule{{Kind: 1, A: 0, B: r0 + a1}}},
		{api.Instr{Op: api.OAlloc, Dst: b0}, []gen.Rule{{Kind: 1, A: 0, B: r0 + b0}}},
		{api.Instr{Op: api.OFun, Dst: f1, N: field}, []gen.Rule{{Kind: 1, A: field, B: r0 + f1}}},
		{api.Instr{Op: api.OFun, Dst: z0, N: theMain}, []gen.Rule{{Kind: 1, A: theMain, B: r0 + z0}}},
		{api.Instr{Op: api.OCopy, Dst: n1, A: n0}, nil},
		{api.Instr{Op: api.OCopy, Dst: a1, A: a0}, []gen.Rule{{Kind: 2, A: r0 + a0, B: r0 + a1}}},
		{api.Instr{Op: api.OCopy, Dst: f0, A: f1}, []gen.Rule{{Kind: 2, A: r0 + f1, B: r0 + f0}}},
		{api.Instr{Op: api.OCopy, Dst: i1, A: i0}, []gen.Rule{{Kind: 2, A: r0 + i0, B: r0 + i1}}},
		{api.Instr{Op: api.OCopy, Dst: a0, A: a0}, []gen.Rule{{Kind: 2, A: r0 + a0, B: r0 + a0}}},
		{api.Instr{Op: api.OMake, Dst: i0, A: b0}, []gen.Rule{{Kind: 2, A: r0 + b0, B: r0 + i0}}},
		{api.Instr{Op: api.OLoad, Dst: n1, A: a0}, nil},
		{api.Instr{Op: api.OLoad, Dst: n1, A: b0, N: 2}, nil},
		{api.Instr{Op: api.OLoad, Dst: a1, A: a0, N: 1}, []gen.Rule{{Kind: 3, A: r0 + a0, B: r0 + a1, F: 1}}},
		{api.Instr{Op: api.OLoad, Dst: b1, A: a1, N: 2}, []gen.Rule{{Kind: 3, A: r0 + a1, B: r0 + b1, F: 2}}},
		{api.Instr{Op: api.OLoad, Dst: i1, A: b0}, []gen.Rule{{Kind: 3, A: r0 + b0, B: r0 + i1}}},
		{api.Instr{Op: api.OLoad, Dst: f1, A: b1, N: 1}, []gen.Rule{{Kind: 3, A: r0 + b1, B: r0 + f1, F: 1}}},
		{api.Instr{Op: api.OLoad, Dst: j1, A: b1, N: 3}, []gen.Rule{{Kind: 3, A: r0 + b1, B: r0 + j1, F: 3}}},
		{api.Instr{Op: api.OStore, A: a0, B: n1}, nil},
		{api.Instr{Op: api.OStore, A: b0, B: n0, N: 2}, nil},
		{api.Instr{Op: api.OStore, A: a0, B: a1, N: 1}, []gen.Rule{{Kind: 4, A: r0 + a1, B: r0 + a0, F: 1}}},
		{api.Instr{Op: api.OStore, A: a1, B: a1, N: 1}, []gen.Rule{{Kind: 4, A: r0 + a1, B: r0 + a1, F: 1}}},
		{api.Instr{Op: api.OStore, A: a1, B: b0, N: 2}, []gen.Rule{{Kind: 4, A: r0 + b0, B: r0 + a1, F: 2}}},
		{api.Instr{Op: api.OStore, A: b1, B: i0}, []gen.Rule{{Kind: 4, A: r0 + i0, B: r0 + b1}}},
		{api.Instr{Op: api.OStore, A: b1, B: f0, N: 1}, []gen.Rule{{Kind: 4, A: r0 + f0, B: r0 + b1, F: 1}}},
		{api.Instr{Op: api.OFree, A: a0}, nil},
		{api.Instr{Op: api.OSink, A: n1}, nil},
	} {
		p := one(x.i)
		are(t, ir.Line(x.i), p, gen.Of(p, theMain), x.want...)
		are(t, "Call at "+ir.Line(x.i), p, gen.Call(p, first, field))
	}
}

// TestCalls holds the rules of each kind of call, and what Call gives of each function that may be called there.
func TestCalls(t *testing.T) {
	toRet := func(ret, dst int) gen.Rule { return gen.Rule{Kind: 2, A: ret, B: r0 + dst} }
	pass := func(arg, param int) gen.Rule { return gen.Rule{Kind: 2, A: r0 + arg, B: param} }
	for _, x := range []struct {
		i      api.Instr
		of     []gen.Rule // nil: those of call
		callee int
		call   []gen.Rule
	}{
		{api.Instr{Op: api.OCall, Dst: n1, N: field, Args: []int{a0}}, nil, field, []gen.Rule{pass(a0, 0)}},
		{api.Instr{Op: api.OCall, Dst: n1, N: eleven, Args: []int{b1}}, nil, eleven, []gen.Rule{pass(b1, 3)}},
		{api.Instr{Op: api.OCall, Dst: a1, N: second, Args: []int{n1, a0}}, nil, second, []gen.Rule{pass(a0, 7), toRet(9, a1)}},
		{api.Instr{Op: api.OCall, Dst: a1, N: second, Args: []int{n0, a1}}, nil, second, []gen.Rule{pass(a1, 7), toRet(9, a1)}},
		{api.Instr{Op: api.OCall, Dst: n0, N: same, Args: []int{a1, n1}}, nil, same, []gen.Rule{pass(a1, 10)}},
		{api.Instr{Op: api.OCall, Dst: f1, N: alone}, nil, alone, []gen.Rule{toRet(17, f1)}},
		{api.Instr{Op: api.OCall, Dst: a0, N: third, Args: []int{b1, n0, a1}}, nil, third, []gen.Rule{pass(b1, 18), pass(a1, 20), toRet(21, a0)}},
		{api.Instr{Op: api.OCall, Dst: a1, N: own, Args: []int{a0, n0, a0}}, nil, own, []gen.Rule{pass(a0, 22), pass(a0, 24), toRet(25, a1)}},
		{api.Instr{Op: api.OCall, Dst: n1, N: theMain}, nil, theMain, nil},
		{api.Instr{Op: api.OCallR, Dst: n1, A: f1, Args: []int{a0}}, []gen.Rule{{Kind: 5, A: r0 + f1, Args: []int{r0 + a0}, Dst: r0 + n1, At: first}}, field, []gen.Rule{pass(a0, 0)}},
		{api.Instr{Op: api.OCallR, Dst: a1, A: g0, Args: []int{n1, a0}}, []gen.Rule{{Kind: 5, A: r0 + g0, Args: []int{r0 + n1, r0 + a0}, Dst: r0 + a1, At: first}}, second, []gen.Rule{pass(a0, 7), toRet(9, a1)}},
		{api.Instr{Op: api.OCallR, Dst: f0, A: h0}, []gen.Rule{{Kind: 5, A: r0 + h0, Dst: r0 + f0, At: first}}, alone, []gen.Rule{toRet(17, f0)}},
		{api.Instr{Op: api.OCallR, Dst: n0, A: z0}, []gen.Rule{{Kind: 5, A: r0 + z0, Dst: r0 + n0, At: first}}, theMain, nil},
		{api.Instr{Op: api.OCallI, Dst: n1, A: i1}, []gen.Rule{{Kind: 6, A: r0 + i1, Dst: r0 + n1, At: first}}, field, nil},
		{api.Instr{Op: api.OCallI, Dst: n1, A: j0}, []gen.Rule{{Kind: 6, A: r0 + j0, Dst: r0 + n1, At: first}}, eleven, nil},
		{api.Instr{Op: api.OCallI, Dst: n0, A: j1, N: 1, Args: []int{n1}}, []gen.Rule{{Kind: 6, A: r0 + j1, F: 1, Args: []int{r0 + n1}, Dst: r0 + n0, At: first}}, twice, nil},
		{api.Instr{Op: api.OCallI, Dst: a1, A: k0, Args: []int{n1, a0}}, []gen.Rule{{Kind: 6, A: r0 + k0, Args: []int{r0 + n1, r0 + a0}, Dst: r0 + a1, At: first}}, third, []gen.Rule{pass(a0, 20), toRet(21, a1)}},
		{api.Instr{Op: api.OCallI, Dst: a0, A: k0, Args: []int{n0, a0}}, []gen.Rule{{Kind: 6, A: r0 + k0, Args: []int{r0 + n0, r0 + a0}, Dst: r0 + a0, At: first}}, own, []gen.Rule{pass(a0, 24), toRet(25, a0)}},
	} {
		p := one(x.i)
		if x.of == nil {
			x.of = x.call
		}
		are(t, ir.Line(x.i), p, gen.Of(p, theMain), x.of...)
		are(t, "Call at "+ir.Line(x.i), p, gen.Call(p, first, x.callee), x.call...)
	}
}

// TestFourArguments holds that arguments keep their order and their places, whichever of them are ints.
func TestFourArguments(t *testing.T) {
	args := []int{b0, n1, a0, f1}
	for _, order := range [][]int{{0, 1, 2, 3}, {3, 2, 1, 0}, {1, 3, 0, 2}, {1, 1, 1, 1}, {2, 2, 1, 2}} {
		p := one(api.Instr{Op: api.OCall, Dst: a1, N: own})
		call := &p.Funcs[theMain].Blocks[0].Code[first-p0]
		sig, fn := &p.Sigs[9], &p.Funcs[own]
		sig.Params, p.Impls, fn.Regs = nil, p.Impls[:4], nil
		var want []gen.Rule
		for k, n := range order {
			call.Args = append(call.Args, args[n])
			sig.Params = append(sig.Params, p.Funcs[theMain].Regs[args[n]])
			// The callee's registers are more than three: main's nodes begin later.
			if args[n] != n1 {
				want = append(want, gen.Rule{Kind: 2, A: r0 + 2 + args[n], B: 22 + k})
			}
		}
		fn.Regs = append(append(fn.Regs, sig.Params...), ptr0)
		fn.Blocks[0] = gives(4, api.Instr{Op: api.ONil, Dst: 4})
		want = append(want, gen.Rule{Kind: 2, A: 27, B: r0 + 2 + a1})
		are(t, fmt.Sprint("arguments ", order), p, gen.Of(p, theMain), want...)
		are(t, fmt.Sprint("Call with arguments ", order), p, gen.Call(p, first+1, own), want...)
	}
}

// TestReturns holds that each end that returns a pointer has a rule, and no other one.
func TestReturns(t *testing.T) {
	p := base([]api.Type{num}, gives(0, api.Instr{Op: api.OSource}))
	are(t, "of ints", p, gen.Of(p, theMain))
	for f, want := range [][]gen.Rule{
		field: nil, eleven: nil, second: {{Kind: 2, A: 7, B: 9}}, same: nil, twice: nil, alone: {{Kind: 2, A: 16, B: 17}},
		third: {{Kind: 2, A: 20, B: 21}}, own: {{Kind: 2, A: 22, B: 25}},
	} {
		are(t, fmt.Sprint("function ", f), p, gen.Of(p, f), want...)
	}
	q := base([]api.Type{num}, gives(0, api.Instr{Op: api.OSource}))
	q.Funcs[own].Blocks = []api.Block{
		{End: api.EBranch, Reg: 1, To: 2, Else: 1}, gives(2), {End: api.EBranch, Reg: 1, To: 3, Else: 4}, gives(0), {End: api.EJump},
	}
	are(t, "two returns", q, gen.Of(q, own), gen.Rule{Kind: 2, A: 24, B: 25}, gen.Rule{Kind: 2, A: 22, B: 25})
	q.Funcs[alone].Blocks[0] = api.Block{End: api.EJump}
	are(t, "no return", q, gen.Of(q, alone))
}

// TestOrder holds that rules stand in the order of points, block by block, whatever way a run goes, and that a block
// tells none of another function.
func TestOrder(t *testing.T) {
	p := base([]api.Type{num, ptr0, ptr0, fun1},
		api.Block{Code: []api.Instr{{Op: api.OSource}, {Op: api.OAlloc, Dst: 1}, {Op: api.ONil, Dst: 2}, {Op: api.OFun, Dst: 3}}, End: api.EJump, To: 2},
		api.Block{Code: []api.Instr{{Op: api.OCopy, Dst: 2, A: 1}, {Op: api.OAdd}, {Op: api.OCall, Dst: 1, N: second, Args: []int{0, 2}}}, End: api.EReturn},
		api.Block{Code: []api.Instr{{Op: api.OAlloc, Dst: 2}, {Op: api.OStore, A: 2, B: 1, N: 1}, {Op: api.OCallR, A: 3, Args: []int{2}}, {Op: api.OLoad, Dst: 1, A: 2, N: 1}},
			End: api.EBranch, To: 2, Else: 1},
	)
	are(t, "main", p, gen.Of(p, theMain),
		gen.Rule{Kind: 1, A: 0, B: r0 + 1}, gen.Rule{Kind: 1, A: 2 + field, B: r0 + 3},
		gen.Rule{Kind: 2, A: r0 + 1, B: r0 + 2}, gen.Rule{Kind: 2, A: r0 + 2, B: 7}, gen.Rule{Kind: 2, A: 9, B: r0 + 1},
		gen.Rule{Kind: 1, A: 1, B: r0 + 2}, gen.Rule{Kind: 4, A: r0 + 1, B: r0 + 2, F: 1},
		gen.Rule{Kind: 5, A: r0 + 3, Args: []int{r0 + 2}, Dst: r0, At: p0 + 11}, gen.Rule{Kind: 3, A: r0 + 2, B: r0 + 1, F: 1})
	are(t, "second", p, gen.Of(p, second), gen.Rule{Kind: 2, A: 7, B: 9})
}

// TestSites holds that an OAlloc's object is its place among all of the program, those of records without fields too.
func TestSites(t *testing.T) {
	p := one(api.Instr{Op: api.OAlloc, Dst: a0}, api.Instr{Op: api.OAlloc, Dst: b0}, api.Instr{Op: api.OAlloc, Dst: a0}, api.Instr{Op: api.OFun, Dst: f0, N: field})
	p.Records[0] = nil
	p.Funcs[field].Blocks[0].Code[0] = api.Instr{Op: api.OConst, Dst: 1}
	p.Funcs[own].Blocks[0].Code = []api.Instr{{Op: api.OAlloc}, {Op: api.OAlloc, Dst: 2}}
	p.Funcs[alone].Blocks[0].Code[0] = api.Instr{Op: api.OFun, N: field}
	are(t, "own", p, gen.Of(p, own), gen.Rule{Kind: 1, A: 0, B: 22}, gen.Rule{Kind: 1, A: 1, B: 24}, gen.Rule{Kind: 2, A: 22, B: 25})
	are(t, "main", p, gen.Of(p, theMain),
		gen.Rule{Kind: 1, A: 2, B: r0 + a0}, gen.Rule{Kind: 1, A: 3, B: r0 + b0}, gen.Rule{Kind: 1, A: 4, B: r0 + a0}, gen.Rule{Kind: 1, A: 5 + field, B: r0 + f0})
	are(t, "alone", p, gen.Of(p, alone), gen.Rule{Kind: 1, A: 5 + field, B: 16}, gen.Rule{Kind: 2, A: 16, B: 17})
}

// TestItself holds a function that calls itself, and that is called by none.
func TestItself(t *testing.T) {
	p := one()
	p.Funcs[own].Blocks = []api.Block{gives(2, api.Instr{Op: api.OCall, Dst: 2, N: own, Args: []int{2, 1, 0}})}
	call := []gen.Rule{{Kind: 2, A: 24, B: 22}, {Kind: 2, A: 22, B: 24}, {Kind: 2, A: 25, B: 24}}
	are(t, "Call of itself", p, gen.Call(p, 11, own), call...)
	are(t, "itself", p, gen.Of(p, own), append(call, gen.Rule{Kind: 2, A: 24, B: 25})...)
}

// TestCallOfAnother holds Call of functions that the instruction doesn't name, as those that a register may hold are.
func TestCallOfAnother(t *testing.T) {
	p := one(api.Instr{Op: api.OCall, Dst: a1, N: own, Args: []int{a0, n1, a1}}, api.Instr{Op: api.OCallI, Dst: a0, A: k0, Args: []int{n0, a1}},
		api.Instr{Op: api.OCallR, Dst: n1, A: f0, Args: []int{a1}})
	p.Funcs = append(p.Funcs, api.Func{Sig: 1, Regs: []api.Type{ptr0, num}, Blocks: p.Funcs[field].Blocks})
	are(t, "another of the same signature", p, gen.Call(p, first+2, theMain+1), gen.Rule{Kind: 2, A: r0 + a1, B: r0 + 17})
	// What does not fit: each argument for which there is a parameter, and what is given back.
	for g, want := range [][]gen.Rule{
		field:   {{Kind: 2, A: r0 + a0, B: 0}},
		eleven:  {{Kind: 2, A: r0 + a0, B: 3}},
		second:  {{Kind: 2, A: r0 + a0, B: 6}, {Kind: 2, A: 9, B: r0 + a1}},
		same:    {{Kind: 2, A: r0 + a0, B: 10}},
		twice:   {{Kind: 2, A: r0 + a0, B: 13}},
		alone:   {{Kind: 2, A: 17, B: r0 + a1}},
		third:   {{Kind: 2, A: r0 + a0, B: 18}, {Kind: 2, A: r0 + a1, B: 20}, {Kind: 2, A: 21, B: r0 + a1}},
		theMain: nil,
	} {
		if g != own {
			are(t, fmt.Sprint("Call of ", g), p, gen.Call(p, first, g), want...)
		}
	}
	for g, want := range [][]gen.Rule{
		field:   nil,
		second:  {{Kind: 2, A: 9, B: r0 + a0}},
		same:    nil,
		alone:   {{Kind: 2, A: 17, B: r0 + a0}},
		own:     {{Kind: 2, A: r0 + a1, B: 24}, {Kind: 2, A: 25, B: r0 + a0}},
		theMain: nil,
	} {
		if g != eleven && g != twice && g != third {
			are(t, fmt.Sprint("Call of the method ", g), p, gen.Call(p, first+1, g), want...)
		}
	}
}

// TestNoSuch holds numbers that are no function or no call.
func TestNoSuch(t *testing.T) {
	p := one(api.Instr{Op: api.OCall, Dst: a1, N: own, Args: []int{a0, n1, a1}}, api.Instr{Op: api.OAlloc, Dst: a0})
	points := len(ir.Points(p))
	for _, f := range around(len(p.Funcs)) {
		if f >= 0 && f < len(p.Funcs) {
			continue
		}
		if got := gen.Of(p, f); len(got) > 0 {
			t.Errorf("P17.1: %d: %v of no function", f, got)
		}
		if got := gen.Call(p, first, f); len(got) > 0 {
			t.Errorf("P17.1: %d: %v of a call of no function", f, got)
		}
	}
	for _, at := range around(points) {
		if got := gen.Call(p, at, own); got != nil && at != first {
			t.Errorf("P17.1: %d: %v of no call", at, got)
		}
	}
	if got := gen.Call(p, first, own); len(got) != 3 {
		t.Errorf("the test is wrong: %v", got)
	}
}
