package types_test

import (
	"fmt"
	"math"
	"strings"
	"testing"

	"haruspex/api"
	"haruspex/types"
)

// Registers of main, by their types.
const (
	rNum = 0
	rP0  = 2
	rF1  = 4
	rI0  = 5
	rP1  = 6
	rI1  = 7
	rP2  = 8
	rF2  = 9
)

// kinds are all types of main's registers, each once.
func kinds() []int { return []int{rNum, rP0, rF1, rI0, rP1, rI1, rP2, rF2} }

// Each instruction of few numbers: of all registers just those named fit.
func TestFitsOfRegisters(t *testing.T) {
	pointers := map[int]struct{}{rP0: {}, rP1: {}, rP2: {}}
	for _, x := range []struct {
		name string
		of   func(r int) api.Instr
		fits map[int]struct{}
	}{
		{"const", func(r int) api.Instr { return api.Instr{Op: api.OConst, Dst: r, N: 77} }, map[int]struct{}{rNum: {}}},
		{"source", func(r int) api.Instr { return api.Instr{Op: api.OSource, Dst: r} }, map[int]struct{}{rNum: {}}},
		{"add's Dst", func(r int) api.Instr { return api.Instr{Op: api.OAdd, Dst: r} }, map[int]struct{}{rNum: {}}},
		{"add's A", func(r int) api.Instr { return api.Instr{Op: api.OAdd, A: r} }, map[int]struct{}{rNum: {}}},
		{"add's B", func(r int) api.Instr { return api.Instr{Op: api.OAdd, B: r} }, map[int]struct{}{rNum: {}}},
		{"nil", func(r int) api.Instr { return api.Instr{Op: api.ONil, Dst: r} }, map[int]struct{}{rP0: {}, rF1: {}, rI0: {}, rP1: {}, rI1: {}, rP2: {}, rF2: {}}},
		{"alloc", func(r int) api.Instr { return api.Instr{Op: api.OAlloc, Dst: r} }, pointers},
		{"free", func(r int) api.Instr { return api.Instr{Op: api.OFree, A: r} }, pointers},
		{"sink", func(r int) api.Instr { return api.Instr{Op: api.OSink, A: r} }, map[int]struct{}{rNum: {}}},
		{"function 0", func(r int) api.Instr { return api.Instr{Op: api.OFun, Dst: r, N: 0} }, map[int]struct{}{rF1: {}}},
		{"function 1", func(r int) api.Instr { return api.Instr{Op: api.OFun, Dst: r, N: 1} }, map[int]struct{}{rF2: {}}},
		{"function 4", func(r int) api.Instr { return api.Instr{Op: api.OFun, Dst: r, N: 4} }, nil},
		{"what loads a number", func(r int) api.Instr { return api.Instr{Op: api.OLoad, Dst: r, A: rP0, N: 0} }, map[int]struct{}{rNum: {}}},
		{"what loads a pointer", func(r int) api.Instr { return api.Instr{Op: api.OLoad, Dst: r, A: rP0, N: 1} }, map[int]struct{}{rP0: {}}},
		{"what loads a function", func(r int) api.Instr { return api.Instr{Op: api.OLoad, Dst: r, A: rP1, N: 0} }, map[int]struct{}{rF1: {}}},
		{"what loads an interface", func(r int) api.Instr { return api.Instr{Op: api.OLoad, Dst: r, A: rP1, N: 1} }, map[int]struct{}{rI0: {}}},
		{"whence a number is loaded", func(r int) api.Instr { return api.Instr{Op: api.OLoad, Dst: rNum, A: r} }, map[int]struct{}{rP0: {}}},
		{"whence a function is loaded", func(r int) api.Instr { return api.Instr{Op: api.OLoad, Dst: rF1, A: r} }, map[int]struct{}{rP1: {}}},
		{"what is stored as a number", func(r int) api.Instr { return api.Instr{Op: api.OStore, A: rP0, B: r, N: 0} }, map[int]struct{}{rNum: {}}},
		{"what is stored as a pointer", func(r int) api.Instr { return api.Instr{Op: api.OStore, A: rP1, B: r, N: 2} }, map[int]struct{}{rP1: {}}},
		{"whither a number is stored", func(r int) api.Instr { return api.Instr{Op: api.OStore, A: r, B: rNum} }, map[int]struct{}{rP0: {}}},
		{"made of a pointer", func(r int) api.Instr { return api.Instr{Op: api.OMake, Dst: r, A: rP0} }, map[int]struct{}{rI0: {}}},
		{"made of another pointer", func(r int) api.Instr { return api.Instr{Op: api.OMake, Dst: r, A: rP1} }, map[int]struct{}{rI1: {}}},
		{"made of a pointer without Impls", func(r int) api.Instr { return api.Instr{Op: api.OMake, Dst: r, A: rP2} }, nil},
		{"whence an interface is made", func(r int) api.Instr { return api.Instr{Op: api.OMake, Dst: rI0, A: r} }, map[int]struct{}{rP0: {}}},
		{"whence another interface is made", func(r int) api.Instr { return api.Instr{Op: api.OMake, Dst: rI1, A: r} }, map[int]struct{}{rP1: {}}},
	} {
		for _, r := range kinds() {
			_, want := x.fits[r]
			if got := types.Fits(great(), main, x.of(r)); got != want {
				t.Errorf("P10.2: %s: %+v fits: %t", x.name, x.of(r), got)
			}
		}
	}
	for _, d := range kinds() {
		for _, a := range kinds() {
			if got := types.Fits(great(), main, api.Instr{Op: api.OCopy, Dst: d, A: a}); got != (d == a) {
				t.Errorf("P10.2: a copy of r%d to r%d fits: %t", a, d, got)
			}
		}
	}
}

// Each kind of call: with each register as its result, as what it calls and at each place of Args, and with too few and too many Args.
func TestFitsOfCalls(t *testing.T) {
	for _, x := range []struct {
		name string
		good api.Instr
	}{
		{"a call", api.Instr{Op: api.OCall, Dst: rP0, N: 1, Args: []int{rNum, rP1}}},
		{"a call without Args", api.Instr{Op: api.OCall, Dst: rNum, N: 4}},
		{"a call with a pointer", api.Instr{Op: api.OCall, Dst: rNum, N: 0, Args: []int{rP0}}},
		{"a call of what gives an interface", api.Instr{Op: api.OCall, Dst: rI1, N: 2, Args: []int{rP1, rNum}}},
		{"a call by a register", api.Instr{Op: api.OCallR, Dst: rNum, A: rF1, Args: []int{rP0}}},
		{"a call of two Args by a register", api.Instr{Op: api.OCallR, Dst: rP0, A: rF2, Args: []int{rNum, rP1}}},
		{"a call of a method", api.Instr{Op: api.OCallI, Dst: rNum, A: rI0}},
		{"a call of the second method", api.Instr{Op: api.OCallI, Dst: rI1, A: rI1, N: 1, Args: []int{rNum}}},
	} {
		if !types.Fits(great(), main, x.good) {
			t.Errorf("P10.2: %s does not fit", x.name)
		}
		refuse := func(i api.Instr) {
			if types.Fits(great(), main, i) {
				t.Errorf("P10.2: %s: %+v fits", x.name, i)
			}
		}
		for _, r := range kinds() {
			i := x.good
			if i.Dst = r; r != x.good.Dst {
				refuse(i)
			}
			i = x.good
			if i.A = r; r != x.good.A && !(x.name == "a call of a method" && r == rI1) {
				refuse(i)
			}
			for k := range x.good.Args {
				i = x.good
				i.Args = append([]int{}, i.Args...)
				if i.Args[k] = r; r != x.good.Args[k] {
					refuse(i)
				}
			}
			i = x.good
			i.Args = append(append([]int{}, i.Args...), r)
			refuse(i)
			i.Args = append([]int{r}, x.good.Args...)
			refuse(i)
		}
		for k := range x.good.Args {
			i := x.good
			i.Args = i.Args[:k]
			refuse(i)
		}
	}
	// Both interfaces begin with the same method.
	if !types.Fits(great(), main, api.Instr{Op: api.OCallI, Dst: rNum, A: rI1}) {
		t.Error("P10.2: a call of the first of two methods does not fit")
	}
}

// Where a name is none, nothing fits.
func TestFitsOfNoNames(t *testing.T) {
	good := make(map[string]api.Instr)
	for b, block := range blocks() {
		for i, in := range block.Code {
			good[fmt.Sprint(b, " ", i)] = in
		}
	}
	for name, in := range good {
		if !types.Fits(great(), main, in) {
			t.Errorf("P10.2: the instruction %s does not fit", name)
		}
		for _, f := range noNames(5) {
			if types.Fits(great(), f, in) {
				t.Errorf("P10.2: %+v fits in the function %d", in, f)
			}
		}
		for _, letter := range counted()[in.Op] {
			for _, n := range noNames(10) {
				i := in
				i.Args = append([]int{}, in.Args...)
				switch {
				case letter == 'N' && i.Op == api.OConst:
					continue
				case letter == '*' && len(i.Args) == 0:
					continue
				case letter == '*':
					i.Args[len(i.Args)-1] = n
				case letter == 'N' && n == 1:
					continue
				default:
					*places(&i)[letter] = n
				}
				if types.Fits(great(), main, i) {
					t.Errorf("P10.2: %+v fits with %c %d", i, letter, n)
				}
			}
		}
	}
	for _, op := range append(noNames(16), 0) {
		if types.Fits(great(), main, api.Instr{Op: op}) {
			t.Errorf("P10.2: the Op %d fits", op)
		}
	}
}

// Types that name nothing fit nowhere, whatever they stand beside.
func TestFitsOfNoTypes(t *testing.T) {
	for _, none := range []api.Type{{Kind: -1}, {Kind: 4}, {Kind: math.MaxInt}, {N: 1}, {N: -1}, {Kind: api.TPtr, N: 3}, {Kind: api.TPtr, N: -1}, {Kind: api.TFun, N: 6}, {Kind: api.TFun, N: -1}, {Kind: api.TIface, N: 2}, {Kind: api.TIface, N: math.MinInt}} {
		p := great()
		p.Funcs[main].Regs = []api.Type{none, none, ptr0, fun1, iface0, num}
		p.Records[0] = []api.Type{none, num}
		p.Sigs[1] = api.Sig{Params: []api.Type{none}, Result: none}
		p.Sigs[0] = api.Sig{Result: none}
		p.Funcs[1].Sig = none.N
		p.Ifaces[0].Sigs = []int{0, 1, none.N + 100}
		p.Impls = append(p.Impls, api.Impl{Rec: none.N, Iface: 0}, api.Impl{Rec: 0, Iface: none.N})
		for _, i := range []api.Instr{
			{Op: api.OConst}, {Op: api.OSource}, {Op: api.OAdd, B: 1}, {Op: api.OAdd, Dst: 5, A: 5, B: 1}, {Op: api.OAdd, Dst: 5, A: 1, B: 5},
			{Op: api.ONil}, {Op: api.OAlloc}, {Op: api.OCopy, A: 1}, {Op: api.OLoad, A: 2}, {Op: api.OLoad, A: 1}, {Op: api.OLoad, Dst: 5, A: 1, N: 1},
			{Op: api.OStore, A: 2}, {Op: api.OStore, A: 0, B: 5, N: 1}, {Op: api.OFree}, {Op: api.OFun, N: 1}, {Op: api.OMake, Dst: 4}, {Op: api.OMake, A: 2},
			{Op: api.OCall}, {Op: api.OCall, Args: []int{1}}, {Op: api.OCall, N: 4}, {Op: api.OCall, N: 1}, {Op: api.OCallR, A: 3, Args: []int{1}}, {Op: api.OCallR},
			{Op: api.OCallI, A: 4}, {Op: api.OCallI, A: 4, N: 1, Args: []int{0}}, {Op: api.OCallI, A: 4, N: 2}, {Op: api.OCallI}, {Op: api.OSink},
		} {
			if types.Fits(p, main, i) {
				t.Errorf("P10.2: %+v fits with a register of %v", i, none)
			}
		}
	}
}

// A function whose signature is none is no function that can be called, or held.
func TestFitsOfNoSignature(t *testing.T) {
	for _, n := range noNames(6) {
		p := great()
		p.Funcs[1].Sig, p.Ifaces[0].Sigs[0] = n, n
		p.Funcs[main].Regs[rF2].N = n
		for _, i := range []api.Instr{{Op: api.OFun, Dst: rF2, N: 1}, {Op: api.OCall, N: 1}, {Op: api.OCall, Dst: rP0, N: 1, Args: []int{rNum, rP1}}, {Op: api.OCallI, A: rI0}, {Op: api.OCallR, A: rF2}} {
			if types.Fits(p, main, i) {
				t.Errorf("P10.2: %+v fits with the signature %d", i, n)
			}
		}
	}
}

// What does not count is 0 and Args is empty: else a name is none, even if there is a register of that number.
func TestFitsOfWhatDoesNotCount(t *testing.T) {
	met := make(map[int]struct{})
	for _, block := range blocks() {
		for _, was := range block.Code {
			met[was.Op] = struct{}{}
			for _, n := range append(noNames(10), 1, 2, 9) {
				for letter := range places(&was) {
					i := was
					if *places(&i)[letter] = n; !strings.ContainsRune(counted()[i.Op], letter) {
						fitsNot(t, i)
					}
				}
			}
			if strings.Contains(counted()[was.Op], "*") {
				continue
			}
			for _, l := range [][]int{{0}, {1}, {-1}, {10}, {1, 4, 0}, make([]int, 1<<16)} {
				i := was
				i.Args = l
				fitsNot(t, i)
			}
			was.Args = []int{}
			if !types.Fits(great(), main, was) {
				t.Errorf("P0.4: %+v with an empty list of Args does not fit", was)
			}
		}
	}
	if len(met) != len(counted()) {
		t.Errorf("P10.2: %d of %d Ops are asked", len(met), len(counted()))
	}
	fitsNot(t, api.Instr{Op: api.OSource, N: 1, Args: []int{1, 4, 0}})
	fitsNot(t, api.Instr{Op: api.OSource, N: 1})
}

// fitsNot holds that i, in great's main, does not fit.
func fitsNot(t *testing.T, i api.Instr) {
	t.Helper()
	if types.Fits(great(), main, i) {
		t.Errorf("P10.2: %+v fits", i)
	}
}

// Without registers nothing fits: 0 is none of them, either.
func TestFitsWithoutRegisters(t *testing.T) {
	p := great()
	p.Funcs[main].Regs = nil
	for op := -1; op <= 16; op++ {
		for _, args := range [][]int{nil, {}, {0}} {
			if types.Fits(p, main, api.Instr{Op: op, Args: args}) {
				t.Errorf("P10.2: the Op %d with Args %v fits without registers", op, args)
			}
		}
	}
}

// Each function has registers of its own.
func TestFitsOfEachFunction(t *testing.T) {
	i := api.Instr{Op: api.OConst, Dst: 1}
	for f, want := range []bool{true, false, true, true, true} {
		if got := types.Fits(great(), f, i); got != want {
			t.Errorf("P10.2: in the function %d it fits: %t", f, got)
		}
	}
	if types.Fits(great(), 0, api.Instr{Op: api.OConst, Dst: 2}) || types.Fits(great(), 0, api.Instr{Op: api.OAlloc, Dst: 2}) {
		t.Error("P10.2: a register of another function fits")
	}
}

func TestFitsOfImpls(t *testing.T) {
	i := api.Instr{Op: api.OMake, Dst: rI0, A: rP0}
	for _, x := range []struct {
		name  string
		impls []api.Impl
		want  bool
	}{
		{"none", nil, false},
		{"the one", []api.Impl{{}}, true},
		{"the last of some", []api.Impl{{Rec: 1}, {Iface: 1}, {Rec: 1, Iface: 1}, {}}, true},
		{"the first of some", []api.Impl{{}, {Rec: 1}, {Iface: 1}}, true},
		{"twice", []api.Impl{{}, {}}, true},
		{"of another record", []api.Impl{{Rec: 1}}, false},
		{"of another interface", []api.Impl{{Iface: 1}}, false},
		{"of both, but not together", []api.Impl{{Rec: 1}, {Iface: 1}}, false},
		// P10.3: whether the functions are right is not asked here.
		{"with functions of no kind", []api.Impl{{Funcs: []int{-1, 99, math.MaxInt}}}, true},
		{"with wrong functions", []api.Impl{{Funcs: []int{3, 3, 3}}}, true},
	} {
		p := great()
		p.Impls = x.impls
		if got := types.Fits(p, main, i); got != x.want {
			t.Errorf("P10.2: Impls: %s: %t", x.name, got)
		}
	}
}

func TestCheckOfParams(t *testing.T) {
	hold(t, "P10.2", types.Check, []turned{
		{"a first register of another kind", func(p *api.Program) { p.Funcs[3].Regs[0] = num }, "type"},
		{"a first register of another record", func(p *api.Program) { p.Funcs[3].Regs[0] = ptr0 }, "type"},
		{"a second register of another record", func(p *api.Program) { p.Funcs[1].Regs[1] = ptr2 }, "type"},
		{"registers in another order", func(p *api.Program) { p.Funcs[1].Regs[0], p.Funcs[1].Regs[1] = ptr1, num }, "type"},
		{"too few registers", func(p *api.Program) { p.Funcs[1].Regs = p.Funcs[1].Regs[:1] }, "type"},
		{"no registers", func(p *api.Program) { p.Funcs[0].Regs = nil }, "type"},
		{"parameters that are not there", func(p *api.Program) { p.Sigs[1].Params = []api.Type{ptr0, num, num} }, "type"},
		{"no more registers than parameters", func(p *api.Program) {
			p.Funcs[3] = api.Func{Sig: 5, Regs: []api.Type{ptr1}, Blocks: []api.Block{{End: api.EJump}}}
		}, ""},
		{"no registers at all", func(p *api.Program) {
			*p = api.Program{Sigs: []api.Sig{{}}, Funcs: []api.Func{{Blocks: []api.Block{{End: api.EJump}}}}}
		}, ""},
		{"more registers of any type", func(p *api.Program) { p.Funcs[3].Regs = append(p.Funcs[3].Regs, num, iface1, fun2) }, ""},
		// Functions come ahead of points.
		{"a wrong point ahead of a wrong function", func(p *api.Program) { p.Funcs[0].Blocks[0].Code[0].Dst, p.Funcs[3].Regs[0] = 0, num }, "type"},
		{"no signature", func(p *api.Program) { p.Funcs[3].Sig = 6 }, "type"},
		{"a signature below 0", func(p *api.Program) { p.Funcs[3].Sig = -1 }, "type"},
	})
}

func TestCheckOfPoints(t *testing.T) {
	for b, block := range blocks() {
		for i := range block.Code {
			hold(t, "P10.2", types.Check, []turned{
				{"a wrong copy", instr(b, i, func(i *api.Instr) { *i = api.Instr{Op: api.OCopy, Dst: rP0, A: rNum} }), fmt.Sprintf("type %d.%d.%d", main, b, i)},
				{"a right copy", instr(b, i, func(i *api.Instr) { *i = api.Instr{Op: api.OCopy, Dst: rI1, A: rI1} }), ""},
				{"an Op that is none", instr(b, i, func(i *api.Instr) { i.Op = 0 }), fmt.Sprintf("type %d.%d.%d", main, b, i)},
			})
		}
	}
	hold(t, "P10.2", types.Check, []turned{
		{"a wrong point of another function", func(p *api.Program) { p.Funcs[2].Blocks[0].Code[0].A = 1 }, "type 2.0.0"},
		{"two wrong points", func(p *api.Program) {
			instr(2, 3, func(i *api.Instr) { i.A = rP0 })(p)
			end(0, func(b *api.Block) { b.Reg = rP0 })(p)
		}, "type 4.0.8"},
		{"two wrong points of two functions", func(p *api.Program) { p.Funcs[1].Blocks[0].Reg, p.Funcs[0].Blocks[0].Code[0].N = 0, 1 }, "type 0.0.0"},
		{"no Impls", func(p *api.Program) { p.Impls = nil }, "type 2.0.0"},
	})
}

func TestCheckOfEnds(t *testing.T) {
	for r, kind := range great().Funcs[main].Regs {
		branch, back := "type 4.0.8", "type 4.3.1"
		if kind == num {
			branch, back = "", ""
		}
		hold(t, "P10.2", types.Check, []turned{
			{fmt.Sprint("a branch by r", r), end(0, func(b *api.Block) { b.Reg = r }), branch},
			{fmt.Sprint("a return of r", r), end(3, func(b *api.Block) { b.Reg = r }), back},
		})
	}
	hold(t, "P10.2", types.Check, []turned{
		{"a pointer as it should be", func(p *api.Program) { p.Funcs[1].Blocks[0].Reg = 2 }, ""},
		{"a pointer to another record", func(p *api.Program) { p.Funcs[1].Blocks[0].Reg = 1 }, "type 1.0.1"},
		{"a number for a pointer", func(p *api.Program) { p.Funcs[1].Blocks[0].Reg = 0 }, "type 1.0.1"},
		{"a pointer for an interface", func(p *api.Program) { p.Funcs[2].Blocks[0].Reg = 0 }, "type 2.0.1"},
		{"a jump asks for nothing", end(1, func(b *api.Block) { b.Reg, b.To, b.Else = rP0, -1, 99 }), ""},
		{"a branch by no register", end(0, func(b *api.Block) { b.Reg = 10 }), "type 4.0.8"},
		{"a branch by a register below 0", end(0, func(b *api.Block) { b.Reg = -1 }), "type 4.0.8"},
		{"a return of no register", end(3, func(b *api.Block) { b.Reg = math.MaxInt }), "type 4.3.1"},
		{"a return of a register below 0", end(3, func(b *api.Block) { b.Reg = math.MinInt }), "type 4.3.1"},
		{"a return of no register as a result of no kind", func(p *api.Program) { p.Sigs[5].Result.Kind, p.Funcs[3].Blocks[0].Reg = -1, 9 }, "type 3.0.1"},
	})
}

func TestCheckOfMain(t *testing.T) {
	hold(t, "P10.2", types.Check, []turned{
		{"with a parameter", func(p *api.Program) { p.Main = 0 }, "type"},
		{"with parameters and another result", func(p *api.Program) { p.Main = 1 }, "type"},
		{"no function", func(p *api.Program) { p.Main = 5 }, "type"},
		{"a function below 0", func(p *api.Program) { p.Main = -1 }, "type"},
		{"which gives a pointer", func(p *api.Program) {
			p.Sigs, p.Main = append(p.Sigs, api.Sig{Result: ptr0}), len(p.Funcs)
			p.Funcs = append(p.Funcs, api.Func{Sig: 6, Regs: []api.Type{ptr0}, Blocks: []api.Block{gives(0)}})
		}, "type"},
		{"which gives a number", func(p *api.Program) {
			p.Main = len(p.Funcs)
			p.Funcs = append(p.Funcs, api.Func{Regs: []api.Type{num}, Blocks: []api.Block{gives(0)}})
		}, ""},
		// Points come ahead of Main.
		{"with a parameter, and a wrong point", func(p *api.Program) { p.Main, p.Funcs[main].Blocks[3].Reg = 0, rP0 }, "type 4.3.1"},
	})
}
