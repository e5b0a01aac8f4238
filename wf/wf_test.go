package wf_test

import (
	"errors"
	"fmt"
	"slices"
	"strings"
	"testing"

	"haruspex/api"
	"haruspex/code"
	"haruspex/refuse"
	"haruspex/types"
	"haruspex/wf"
)

var (
	num    = api.Type{Kind: api.TInt}
	ptr0   = api.Type{Kind: api.TPtr}
	ptr1   = api.Type{Kind: api.TPtr, N: 1}
	fun0   = api.Type{Kind: api.TFun}
	fun1   = api.Type{Kind: api.TFun, N: 1}
	iface0 = api.Type{Kind: api.TIface}
	iface1 = api.Type{Kind: api.TIface, N: 1}
)

// great gives a program that may be. Interface 0 has no method, 1 has one, 2 has three. Of the functions 1 and 4 are
// methods of record 0 and 2 is one of record 1, all of them without parameters; 3 and 5 take two.
func great() *api.Program {
	pair := []api.Type{num, iface1}
	return &api.Program{
		Records: [][]api.Type{{num, ptr1}, {iface1}, {}},
		Sigs: []api.Sig{
			{},
			{Params: []api.Type{ptr0}},
			{Params: []api.Type{ptr1}},
			{Params: pair, Result: ptr1},
			{Params: append([]api.Type{ptr0}, pair...), Result: ptr1},
			{Params: append([]api.Type{ptr1}, pair...), Result: ptr1},
		},
		Ifaces: []api.Iface{{}, {Sigs: []int{0}}, {Sigs: []int{0, 3, 0}}},
		Impls: []api.Impl{
			{Rec: 0, Iface: 1, Funcs: []int{1}},
			{Rec: 1, Iface: 1, Funcs: []int{2}},
			{Rec: 0, Iface: 2, Funcs: []int{4, 3, 1}},
			{Rec: 1, Iface: 0},
		},
		Funcs: []api.Func{
			{Regs: []api.Type{num, ptr0, iface1, ptr1}, Blocks: blocks()},
			{Sig: 1, Regs: []api.Type{ptr0, num}, Blocks: []api.Block{gives(1, api.Instr{Op: api.OLoad, Dst: 1})}},
			{Sig: 2, Regs: []api.Type{ptr1, num}, Blocks: []api.Block{gives(1, api.Instr{Op: api.OConst, Dst: 1, N: -3})}},
			{Sig: 4, Regs: []api.Type{ptr0, num, iface1, ptr1}, Blocks: []api.Block{gives(3, api.Instr{Op: api.ONil, Dst: 3})}},
			{Sig: 1, Regs: []api.Type{ptr0, num}, Blocks: []api.Block{gives(1, api.Instr{Op: api.OSource, Dst: 1})}},
			{Sig: 5, Regs: []api.Type{ptr1, num, iface1}, Blocks: []api.Block{gives(0)}},
		},
	}
}

// blocks gives those of great's main.
func blocks() []api.Block {
	return []api.Block{
		{Code: []api.Instr{{Op: api.OSource}, {Op: api.OAlloc, Dst: 1}}, End: api.EBranch, To: 2, Else: 1},
		{Code: []api.Instr{{Op: api.OMake, Dst: 2, A: 1}}, End: api.EJump, To: 3},
		{Code: []api.Instr{{Op: api.OAlloc, Dst: 3}, {Op: api.OMake, Dst: 2, A: 3}}, End: api.EJump, To: 3},
		gives(0, api.Instr{Op: api.OCallI, A: 2}, api.Instr{Op: api.OCall, Dst: 3, N: 3, Args: []int{1, 0, 2}}),
	}
}

// gives gives a block that returns r.
func gives(r int, code ...api.Instr) api.Block {
	return api.Block{Code: code, End: api.EReturn, Reg: r}
}

// told tells a refusal, all of it: its reason and its place, and behind a < those of the refusal that it wraps.
func told(err error) string {
	var l []string
	for err != nil {
		x, ok := err.(*refuse.Error)
		if !ok || x == nil {
			return "no refusal"
		}
		l = append(l, fmt.Sprintf("%s %d.%d.%d", refuse.Name(x.Why), x.At.F, x.At.B, x.At.I))
		err = x.Inner
	}
	return strings.Join(l, " < ")
}

// around tells a refusal that wraps one of the same reason and place.
func around(one string) string {
	if one == "" {
		return ""
	}
	return one + " < " + one
}

// turned is a change of great and what is to be told of it.
type turned struct {
	name string
	turn func(p *api.Program)
	want string
}

// rightNames refuses to test with a program of which the chapter does not speak.
func rightNames(t *testing.T, name string, p *api.Program) {
	t.Helper()
	if told(types.Bounds(p))+told(types.Names(p)) != "" {
		t.Fatalf("%s: the test is wrong: %v, %v", name, types.Bounds(p), types.Names(p))
	}
}

func holdMethods(t *testing.T, l []turned) {
	t.Helper()
	for _, x := range l {
		p := great()
		x.turn(p)
		rightNames(t, x.name, p)
		if got := told(wf.Methods(p)); got != x.want {
			t.Errorf("P12.1: %s: Methods %q, want %q", x.name, got, x.want)
		}
		if got := told(wf.Check(p)); x.want != "" && got != around(x.want) {
			t.Errorf("P12.1: %s: Check %q, want %q", x.name, got, around(x.want))
		}
	}
}

const none = "methods -1.0.0" // what is told of an Impl that is none

// sets gives a turn that puts a function of this signature, a new one, to the place k of the Impl m.
func sets(m, k int, s api.Sig) func(p *api.Program) {
	return func(p *api.Program) {
		p.Impls[m].Funcs[k] = len(p.Funcs)
		p.Funcs = append(p.Funcs, api.Func{Sig: len(p.Sigs), Regs: append(slices.Clone(s.Params), s.Result), Blocks: []api.Block{gives(len(s.Params))}})
		p.Sigs = append(p.Sigs, s)
	}
}

func TestGreat(t *testing.T) {
	p := great()
	if told(wf.Methods(p)) != "" || told(wf.Check(p)) != "" {
		t.Errorf("P12.1: %q, %q", told(wf.Methods(p)), told(wf.Check(p)))
	}
	if wf.Methods(p) != nil || wf.Check(p) != nil {
		t.Error("P12.1: what is not refused has an error that is none")
	}
}

func TestHowManyFuncs(t *testing.T) {
	funcs := func(m int, l ...int) func(p *api.Program) {
		return func(p *api.Program) { p.Impls[m].Funcs = l }
	}
	holdMethods(t, []turned{
		{"none for one", funcs(0), none},
		{"two for one", funcs(0, 1, 1), none},
		{"three for one", funcs(0, 1, 1, 4), none},
		{"none for three", funcs(2), none},
		{"one for three", funcs(2, 4), none},
		{"two for three", funcs(2, 4, 3), none},
		{"one for none", funcs(3, 2), none},
		{"three for none", funcs(3, 2, 5, 2), none},
		{"an empty list for none", funcs(3, []int{}...), ""},
		{"a method more", func(p *api.Program) { p.Ifaces[1].Sigs = []int{0, 0} }, none},
		{"a method fewer", func(p *api.Program) { p.Ifaces[2].Sigs = []int{0, 3} }, none},
		{"no methods", func(p *api.Program) { p.Ifaces[2].Sigs = nil }, none},
		{"a method of an interface without Impls", func(p *api.Program) { p.Ifaces = append(p.Ifaces, api.Iface{Sigs: []int{3}}) }, ""},
		{"no Impls", func(p *api.Program) { p.Impls = nil }, ""},
		{"no Impls and no interfaces to speak of", func(p *api.Program) { p.Impls = []api.Impl{}; p.Ifaces[1].Sigs = []int{3, 3, 3} }, ""},
	})
}

// The function 1 of record 0, whose method takes nothing and gives a number.
func TestSignatures(t *testing.T) {
	sig := func(r api.Type, l ...api.Type) func(p *api.Program) { return sets(0, 0, api.Sig{Params: l, Result: r}) }
	holdMethods(t, []turned{
		{"its own, under another number", sig(num, ptr0), ""},
		{"no receiver", sig(num), none},
		{"the receiver of another record", sig(num, ptr1), none},
		{"a number as the receiver", sig(num, num), none},
		{"a function as the receiver", sig(num, fun0), none},
		{"an interface as the receiver", sig(num, iface0), none},
		{"the interface itself as the receiver", sig(num, iface1), none},
		{"the receiver twice", sig(num, ptr0, ptr0), none},
		{"a parameter more", sig(num, ptr0, num), none},
		{"a parameter ahead", sig(num, num, ptr0), none},
		{"four parameters", sig(num, ptr0, num, num, num), none},
		{"a pointer as the result", sig(ptr0, ptr0), none},
		{"a function as the result", sig(fun0, ptr0), none},
		{"an interface as the result", sig(iface0, ptr0), none},
		{"another function of that signature", func(p *api.Program) { p.Impls[0].Funcs[0] = 4 }, ""},
		{"the method's own signature", func(p *api.Program) { p.Impls[0].Funcs[0] = 0 }, none},
		{"main, with a receiver", func(p *api.Program) { p.Main = 1; p.Funcs[0].Sig = 1 }, ""},
	})
}

// The function 3 of record 0, whose method takes a number and an interface and gives a pointer.
func TestSignaturesOfSome(t *testing.T) {
	sig := func(r api.Type, l ...api.Type) func(p *api.Program) { return sets(2, 1, api.Sig{Params: l, Result: r}) }
	holdMethods(t, []turned{
		{"its own, under another number", sig(ptr1, ptr0, num, iface1), ""},
		{"no receiver", sig(ptr1, num, iface1), none},
		{"the receiver alone", sig(ptr1, ptr0), none},
		{"nothing", sig(ptr1), none},
		{"the receiver last", sig(ptr1, num, iface1, ptr0), none},
		{"the receiver of another record", sig(ptr1, ptr1, num, iface1), none},
		{"the last one missing", sig(ptr1, ptr0, num), none},
		{"the middle one missing", sig(ptr1, ptr0, iface1), none},
		{"turned round", sig(ptr1, ptr0, iface1, num), none},
		{"another interface", sig(ptr1, ptr0, num, iface0), none},
		{"another kind with that number", sig(ptr1, ptr0, num, fun1), none},
		{"another kind in the middle", sig(ptr1, ptr0, fun0, iface1), none},
		{"one more", sig(ptr1, ptr0, num, iface1, num), none},
		{"the last one twice", sig(ptr1, ptr0, num, iface1, iface1), none},
		{"another record as the result", sig(ptr0, ptr0, num, iface1), none},
		{"another kind as the result", sig(fun1, ptr0, num, iface1), none},
		{"a number as the result", sig(num, ptr0, num, iface1), none},
		{"a record alike as the result", func(p *api.Program) {
			p.Records = append(p.Records, p.Records[1])
			sig(api.Type{Kind: api.TPtr, N: 3}, ptr0, num, iface1)(p)
		}, none},
		{"a record alike as the receiver", func(p *api.Program) {
			p.Records[1] = p.Records[0]
			p.Impls[2].Funcs[1] = 5
		}, none},
		{"the method's signature is another one", func(p *api.Program) { p.Ifaces[2].Sigs[1] = 4 }, none},
		{"the method's signature is alike", func(p *api.Program) { p.Ifaces[2].Sigs[1] = len(p.Sigs); p.Sigs = append(p.Sigs, p.Sigs[3]) }, ""},
		{"the method takes what no function can", func(p *api.Program) {
			p.Sigs = append(p.Sigs, api.Sig{Params: []api.Type{num, num, num, num}}, api.Sig{Params: []api.Type{ptr0, num, num, num}})
			p.Ifaces[2].Sigs[1], p.Impls[2].Funcs[1] = 6, len(p.Funcs)
			p.Funcs = append(p.Funcs, api.Func{Sig: 7, Blocks: []api.Block{{End: api.EJump}}})
		}, none},
		{"the method takes three", func(p *api.Program) {
			p.Sigs = append(p.Sigs, api.Sig{Params: []api.Type{num, num, num}}, api.Sig{Params: []api.Type{ptr0, num, num, num}})
			p.Ifaces[2].Sigs[1], p.Impls[2].Funcs[1] = 6, len(p.Funcs)
			p.Funcs = append(p.Funcs, api.Func{Sig: 7, Blocks: []api.Block{{End: api.EJump}}})
		}, ""},
	})
}

// Which method a function stands for hangs on its place in the Impl.
func TestPlaces(t *testing.T) {
	funcs := func(l ...int) func(p *api.Program) {
		return func(p *api.Program) { p.Impls[2].Funcs = l }
	}
	holdMethods(t, []turned{
		{"one function for two methods", funcs(1, 3, 1), ""},
		{"two functions the other way round", funcs(1, 3, 4), ""},
		{"the first two turned round", funcs(3, 4, 1), none},
		{"the last two turned round", funcs(4, 1, 3), none},
		{"the first one wrong", funcs(2, 3, 1), none},
		{"the middle one wrong", funcs(4, 5, 1), none},
		{"the last one wrong", funcs(4, 3, 2), none},
		{"all of them wrong", funcs(0, 0, 0), none},
		{"the first Impl wrong", func(p *api.Program) { p.Impls[0].Funcs[0] = 2 }, none},
		{"the second Impl wrong", func(p *api.Program) { p.Impls[1].Funcs[0] = 1 }, none},
		{"two that are wrong alone are right together", func(p *api.Program) {
			p.Impls[0].Rec, p.Impls[1].Rec = 1, 0
			p.Impls[0].Funcs[0], p.Impls[1].Funcs[0] = 2, 1
		}, ""},
		{"the record changed", func(p *api.Program) { p.Impls[2].Rec = 1 }, none},
		{"the record changed to one without Impls", func(p *api.Program) { p.Impls[2].Rec = 2 }, none},
		{"the record of no functions changed", func(p *api.Program) { p.Impls[3].Rec = 2 }, ""},
		{"the interface changed", func(p *api.Program) { p.Impls[2].Iface = 0 }, none},
		{"the interface changed to one alike", func(p *api.Program) { p.Ifaces = append(p.Ifaces, p.Ifaces[2]); p.Impls[2].Iface = 3 }, ""},
		{"another one wrong at the end", func(p *api.Program) {
			p.Impls = append(p.Impls, api.Impl{Rec: 1, Iface: 2, Funcs: []int{2, 3, 2}})
		}, none},
		{"another one right at the end", func(p *api.Program) {
			p.Impls = append(p.Impls, api.Impl{Rec: 1, Iface: 2, Funcs: []int{2, 5, 2}})
		}, ""},
	})
}

func TestTwice(t *testing.T) {
	more := func(l ...api.Impl) func(p *api.Program) {
		return func(p *api.Program) { p.Impls = append(p.Impls, l...) }
	}
	one, other := api.Impl{Iface: 1, Funcs: []int{1}}, api.Impl{Iface: 1, Funcs: []int{4}}
	holdMethods(t, []turned{
		{"the first again", more(one), none},
		{"with another function", more(other), none},
		{"without functions", more(api.Impl{Rec: 1}), none},
		{"side by side", func(p *api.Program) { p.Impls = slices.Insert(p.Impls, 0, other) }, none},
		{"far behind", more(api.Impl{Rec: 0}, api.Impl{Rec: 2}, other), none},
		{"three times", more(one, other), none},
		{"a record twice, of other interfaces", more(api.Impl{}), ""},
		{"an interface twice, of other records", more(api.Impl{}, api.Impl{Rec: 2}), ""},
		{"numbers the other way round", func(p *api.Program) {
			p.Impls = []api.Impl{{Rec: 0, Iface: 1, Funcs: []int{1}}, {Rec: 1, Iface: 0}}
		}, ""},
		{"of an interface alike", func(p *api.Program) {
			p.Ifaces = append(p.Ifaces, api.Iface{Sigs: []int{0}})
			p.Impls = append(p.Impls, api.Impl{Iface: 3, Funcs: []int{1}})
		}, ""},
		{"of a record alike", func(p *api.Program) { p.Records[2] = p.Records[1]; p.Impls = append(p.Impls, api.Impl{Rec: 2}) }, ""},
	})
}

// What others refuse is not the matter of Methods.
func TestMethodsAskNothingElse(t *testing.T) {
	holdMethods(t, []turned{
		{"a wrong main", func(p *api.Program) { p.Main = 3 }, ""},
		{"wrong registers of a method", func(p *api.Program) { p.Funcs[1].Regs = nil; p.Funcs[1].Blocks = []api.Block{{End: api.EJump}} }, ""},
		{"a wrong end of a method", func(p *api.Program) { p.Funcs[1].Blocks[0].Reg = 0 }, ""},
		{"an interface made without an Impl", func(p *api.Program) { p.Impls = p.Impls[1:] }, ""},
		{"a call with wrong arguments", func(p *api.Program) { p.Funcs[0].Blocks[3].Code[0].Args = []int{0} }, ""},
		{"a block that is not reached", func(p *api.Program) { p.Funcs[0].Blocks[0].To = 1 }, ""},
		{"a register that is not assigned", func(p *api.Program) { p.Funcs[0].Blocks[0].Code[1].Dst = 3 }, ""},
	})
}

// faults are six of great, in the order in which Check asks; each of them leaves the others as they are.
func faults() []turned {
	return []turned{
		{"bound", func(p *api.Program) { p.Records = append(p.Records, make([][]api.Type, 4)...) }, "bound -1.0.0"},
		{"name", func(p *api.Program) { p.Funcs[5].Regs = append(p.Funcs[5].Regs, api.Type{Kind: 4}) }, "name -1.0.0"},
		{"methods", func(p *api.Program) { p.Impls = append(p.Impls, api.Impl{Rec: 2, Iface: 1, Funcs: []int{2}}) }, none},
		{"type", func(p *api.Program) { p.Funcs[4].Blocks[0].Reg = 0 }, "type 4.0.1"},
		{"shape", func(p *api.Program) {
			p.Funcs[3].Blocks = append(p.Funcs[3].Blocks, api.Block{End: api.EJump}, api.Block{End: api.EJump})
		}, "shape 3.1.0"},
		{"assign", func(p *api.Program) { p.Funcs[2].Blocks[0].Code[0] = api.Instr{Op: api.OCopy, Dst: 1, A: 1} }, "assign 2.0.0"},
	}
}

// All ways to have some of the six faults: the first of them is told, by Check and by Load.
func TestTheFirstReason(t *testing.T) {
	l := faults()
	for have := range 1 << len(l) {
		p, want, names := great(), "", ""
		for k, x := range l {
			if have>>k&1 == 0 {
				continue
			}
			x.turn(p)
			names += x.name + " "
			if want == "" {
				want = x.want
			}
		}
		if got := told(wf.Check(p)); got != around(want) {
			t.Errorf("P12.1: faults %s: Check %q, want %q", names, got, around(want))
		}
		b, err := code.Encode(p)
		if err != nil {
			t.Fatal(err)
		}
		q, err := wf.Load(b)
		if got := told(err); got != around(want) || (q == nil) != (want != "") {
			t.Errorf("P12.1: faults %s: Load %v, %q, want %q", names, q, got, around(want))
		}
	}
}

// Refusals of Check with a place and without one, of each who gives them.
func TestWhere(t *testing.T) {
	for _, x := range []turned{
		{"no functions", func(p *api.Program) { p.Funcs = nil }, "bound -1.0.0"},
		{"no blocks", func(p *api.Program) { p.Funcs[5].Blocks = nil }, "bound -1.0.0"},
		{"the name of an interface's method", func(p *api.Program) { p.Ifaces[2].Sigs[2] = 6 }, "name -1.0.0"},
		{"the name of an Impl's function", func(p *api.Program) { p.Impls[2].Funcs[2] = 6 }, "name -1.0.0"},
		{"the name of an Impl's record", func(p *api.Program) { p.Impls[3].Rec = -1 }, "name -1.0.0"},
		{"the name of an Impl's interface", func(p *api.Program) { p.Impls[3].Iface = 3 }, "name -1.0.0"},
		{"the name at the first point", func(p *api.Program) { p.Funcs[0].Blocks[0].Code[0].Dst = 4 }, "name 0.0.0"},
		{"the name at a point", func(p *api.Program) { p.Funcs[0].Blocks[3].Code[1].Args[2] = 4 }, "name 0.3.1"},
		{"the name at an end", func(p *api.Program) { p.Funcs[5].Blocks[0].Reg = 3 }, "name 5.0.0"},
		{"the name of main", func(p *api.Program) { p.Main = 6 }, "name -1.0.0"},
		{"the type of a parameter", func(p *api.Program) { p.Funcs[3].Regs[1] = ptr0 }, "type -1.0.0"},
		{"the type of the first point", func(p *api.Program) { p.Funcs[0].Blocks[0].Code[0].Dst = 1 }, "type 0.0.0"},
		{"an interface made without an Impl", func(p *api.Program) { p.Impls = p.Impls[1:] }, "type 0.1.0"},
		{"the type of an end", func(p *api.Program) { p.Funcs[0].Blocks[3].Reg = 1 }, "type 0.3.2"},
		{"the type of main", func(p *api.Program) { p.Main = 5 }, "type -1.0.0"},
		{"a block that is not reached", func(p *api.Program) { p.Funcs[0].Blocks[0].Else = 2 }, "shape 0.1.0"},
		{"a register that is not assigned", func(p *api.Program) { p.Funcs[0].Blocks[1].Code = nil }, "assign 0.3.0"},
		{"an end whose register is not assigned", func(p *api.Program) { p.Funcs[4].Blocks[0].Code = nil }, "assign 4.0.0"},
	} {
		p := great()
		x.turn(p)
		e := wf.Check(p)
		if got := told(e); got != around(x.want) {
			t.Errorf("P12.1: %s: %q, want %q", x.name, got, around(x.want))
		}
		outer, one := refuse.Where(e)
		inner, other := refuse.Where(errors.Unwrap(e))
		if outer != inner || one != other || one == strings.Contains(x.want, "-1") {
			t.Errorf("P12.1: %s: at %v %t, what is wrapped at %v %t", x.name, outer, one, inner, other)
		}
		if why := refuse.Why(e); !errors.Is(e, &refuse.Error{Why: why}) || !slices.Equal(refuse.Chain(e), []int{why, why}) {
			t.Errorf("P12.1: %s: the chain %v", x.name, refuse.Chain(e))
		}
	}
}

func TestNoProgram(t *testing.T) {
	if got := told(wf.Check(nil)); got != around("bound -1.0.0") {
		t.Errorf("P12.1: no program: %q", got)
	}
	if got := told(wf.Methods(nil)); got != "" {
		t.Errorf("P0.1: no program: Methods %q", got)
	}
	if got := told(wf.Check(&api.Program{})); got != around("bound -1.0.0") {
		t.Errorf("P12.1: a program of nothing: %q", got)
	}
	if got := told(wf.Methods(&api.Program{})); got != "" {
		t.Errorf("P12.1: a program of nothing: Methods %q", got)
	}
}

// The least program that may be.
func TestLeast(t *testing.T) {
	p := &api.Program{Sigs: []api.Sig{{}}, Funcs: []api.Func{{Regs: []api.Type{num}, Blocks: []api.Block{gives(0, api.Instr{Op: api.OConst})}}}}
	if got := told(wf.Check(p)) + told(wf.Methods(p)); got != "" {
		t.Errorf("P12.1: %q", got)
	}
	p.Funcs[0].Blocks[0] = api.Block{End: api.EJump}
	if got := told(wf.Check(p)) + told(wf.Methods(p)); got != "" {
		t.Errorf("P12.1: one that does not end: %q", got)
	}
}
