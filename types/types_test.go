package types_test

import (
	"errors"
	"fmt"
	"math"
	"strings"
	"testing"

	"haruspex/api"
	"haruspex/refuse"
	"haruspex/types"
)

var (
	num    = api.Type{Kind: api.TInt}
	ptr0   = api.Type{Kind: api.TPtr}
	ptr1   = api.Type{Kind: api.TPtr, N: 1}
	ptr2   = api.Type{Kind: api.TPtr, N: 2}
	fun1   = api.Type{Kind: api.TFun, N: 1}
	fun2   = api.Type{Kind: api.TFun, N: 2}
	iface0 = api.Type{Kind: api.TIface}
	iface1 = api.Type{Kind: api.TIface, N: 1}
)

const main = 4 // the function of great with instructions of all kinds

// great gives a program that may be. Of no two things it has the same number: 3 records, 6 signatures, 2 interfaces,
// 5 functions; main has 4 blocks and 10 registers.
func great() *api.Program {
	return &api.Program{
		Records: [][]api.Type{{num, ptr0}, {fun1, iface0, ptr1}, {}},
		Sigs: []api.Sig{
			{Result: num},
			{Params: []api.Type{ptr0}, Result: num},
			{Params: []api.Type{num, ptr1}, Result: ptr0},
			{Params: []api.Type{ptr1, num}, Result: iface1},
			{Params: []api.Type{num}, Result: iface1},
			{Params: []api.Type{ptr1}, Result: num},
		},
		Ifaces: []api.Iface{{Sigs: []int{0}}, {Sigs: []int{0, 4}}},
		Impls:  []api.Impl{{Rec: 0, Iface: 0, Funcs: []int{0}}, {Rec: 1, Iface: 1, Funcs: []int{3, 2}}},
		Funcs: []api.Func{
			{Sig: 1, Regs: []api.Type{ptr0, num}, Blocks: []api.Block{gives(1, api.Instr{Op: api.OLoad, Dst: 1})}},
			{Sig: 2, Regs: []api.Type{num, ptr1, ptr0}, Blocks: []api.Block{gives(2, api.Instr{Op: api.OAlloc, Dst: 2})}},
			{Sig: 3, Regs: []api.Type{ptr1, num, iface1}, Blocks: []api.Block{gives(2, api.Instr{Op: api.OMake, Dst: 2})}},
			{Sig: 5, Regs: []api.Type{ptr1, num}, Blocks: []api.Block{gives(1, api.Instr{Op: api.OConst, Dst: 1, N: 7})}},
			{Regs: []api.Type{num, num, ptr0, ptr0, fun1, iface0, ptr1, iface1, ptr2, fun2}, Blocks: blocks()},
		},
		Main: main,
	}
}

// gives gives a block that returns r.
func gives(r int, code ...api.Instr) api.Block {
	return api.Block{Code: code, End: api.EReturn, Reg: r}
}

// blocks gives those of great's main.
func blocks() []api.Block {
	return []api.Block{
		{Code: []api.Instr{
			{Op: api.OConst, N: -5},
			{Op: api.OSource, Dst: 1},
			{Op: api.OAdd, Dst: 1, A: 0, B: 1},
			{Op: api.OAlloc, Dst: 2},
			{Op: api.ONil, Dst: 3},
			{Op: api.OStore, A: 2, B: 3, N: 1},
			{Op: api.OStore, A: 2, B: 1},
			{Op: api.OAlloc, Dst: 6},
		}, End: api.EBranch, Reg: 1, To: 1, Else: 2},
		{Code: []api.Instr{
			{Op: api.OLoad, Dst: 3, A: 2, N: 1},
			{Op: api.OCopy, Dst: 3, A: 2},
			{Op: api.OMake, Dst: 5, A: 3},
			{Op: api.OCallI, Dst: 0, A: 5},
			{Op: api.OFun, Dst: 4, N: 0},
			{Op: api.OCallR, Dst: 1, A: 4, Args: []int{2}},
			{Op: api.OMake, Dst: 7, A: 6},
			{Op: api.OCallI, Dst: 7, A: 7, N: 1, Args: []int{0}},
		}, End: api.EJump, To: 3},
		{Code: []api.Instr{
			{Op: api.OCall, Dst: 3, N: 1, Args: []int{0, 6}},
			{Op: api.OFun, Dst: 9, N: 1},
			{Op: api.OCallR, Dst: 2, A: 9, Args: []int{1, 6}},
			{Op: api.OSink, A: 0},
			{Op: api.OFree, A: 2},
			{Op: api.ONil, Dst: 4},
			{Op: api.ONil, Dst: 7},
		}, End: api.EJump, To: 3},
		gives(0, api.Instr{Op: api.OAlloc, Dst: 8}),
	}
}

// told tells a refusal, all of it: its reason, its place and, if there is some, what it wraps.
func told(err error) string {
	var x *refuse.Error
	switch {
	case err == nil:
		return ""
	case !errors.As(err, &x) || error(x) != err:
		return "no refusal"
	case x.Inner != nil:
		return fmt.Sprint(x.Why, x.At, x.Inner)
	case x.At == api.Point{F: -1}:
		return refuse.Name(x.Why)
	}
	return fmt.Sprintf("%s %d.%d.%d", refuse.Name(x.Why), x.At.F, x.At.B, x.At.I)
}

// turned is a change of great and what is to be told of it.
type turned struct {
	name string
	turn func(p *api.Program)
	want string
}

// hold asks of great, after each of the turns.
func hold(t *testing.T, promise string, ask func(p *api.Program) error, l []turned) {
	t.Helper()
	for _, x := range l {
		p := great()
		x.turn(p)
		if got := told(ask(p)); got != x.want {
			t.Errorf("%s: %s: %q, want %q", promise, x.name, got, x.want)
		}
	}
}

// instr gives a turn of an instruction of main.
func instr(b, i int, turn func(i *api.Instr)) func(p *api.Program) {
	return func(p *api.Program) { turn(&p.Funcs[main].Blocks[b].Code[i]) }
}

// end gives a turn of an end of main.
func end(b int, turn func(b *api.Block)) func(p *api.Program) {
	return func(p *api.Program) { turn(&p.Funcs[main].Blocks[b]) }
}

// noNames are numbers that name none of n things.
func noNames(n int) []int {
	return []int{-1, -2, n, n + 1, 1 << 31, 1 << 32, 1<<32 + 1, math.MaxInt, math.MinInt, math.MinInt + 1}
}

func TestGreat(t *testing.T) {
	p := great()
	if e := types.Bounds(p); e != nil {
		t.Errorf("P10.1: Bounds: %v", e)
	}
	if e := types.Names(p); e != nil {
		t.Errorf("P10.1: Names: %v", e)
	}
	if e := types.Check(p); e != nil {
		t.Errorf("P10.2: Check: %v", e)
	}
}

func TestNamesOfTables(t *testing.T) {
	hold(t, "P10.1", types.Names, []turned{
		{"a number with an N", func(p *api.Program) { p.Records[0][0].N = 1 }, "name"},
		{"a number with an N below 0", func(p *api.Program) { p.Records[0][0].N = -1 }, "name"},
		{"the last record", func(p *api.Program) { p.Records[0][1].N = 2 }, ""},
		{"no record", func(p *api.Program) { p.Records[1][2].N = 3 }, "name"},
		{"the last signature", func(p *api.Program) { p.Records[1][0].N = 5 }, ""},
		{"no signature", func(p *api.Program) { p.Records[1][0].N = 6 }, "name"},
		{"the last interface", func(p *api.Program) { p.Records[1][1].N = 1 }, ""},
		{"no interface", func(p *api.Program) { p.Records[1][1].N = 2 }, "name"},
		{"no kind", func(p *api.Program) { p.Records[0][0].Kind = 4 }, "name"},
		{"a kind below 0", func(p *api.Program) { p.Records[0][0].Kind = -1 }, "name"},
		{"a parameter", func(p *api.Program) { p.Sigs[2].Params[1].N = 3 }, "name"},
		{"a result", func(p *api.Program) { p.Sigs[5].Result.Kind = 4 }, "name"},
		{"the last method", func(p *api.Program) { p.Ifaces[1].Sigs[1] = 5 }, ""},
		{"no method", func(p *api.Program) { p.Ifaces[1].Sigs[1] = 6 }, "name"},
		{"a method below 0", func(p *api.Program) { p.Ifaces[0].Sigs[0] = -1 }, "name"},
		{"the last record of an Impl", func(p *api.Program) { p.Impls[1].Rec = 2 }, ""},
		{"no record of an Impl", func(p *api.Program) { p.Impls[1].Rec = 3 }, "name"},
		{"a record of an Impl below 0", func(p *api.Program) { p.Impls[0].Rec = -1 }, "name"},
		{"no interface of an Impl", func(p *api.Program) { p.Impls[0].Iface = 2 }, "name"},
		{"an interface of an Impl below 0", func(p *api.Program) { p.Impls[0].Iface = -1 }, "name"},
		{"the last function of an Impl", func(p *api.Program) { p.Impls[1].Funcs[1] = 4 }, ""},
		{"no function of an Impl", func(p *api.Program) { p.Impls[1].Funcs[1] = 5 }, "name"},
		{"a function of an Impl below 0", func(p *api.Program) { p.Impls[0].Funcs[0] = -1 }, "name"},
		{"a function's last signature", func(p *api.Program) { p.Funcs[2].Sig = 5 }, ""},
		{"no signature of a function", func(p *api.Program) { p.Funcs[2].Sig = 6 }, "name"},
		{"a function's signature below 0", func(p *api.Program) { p.Funcs[2].Sig = -1 }, "name"},
		{"a register of no kind", func(p *api.Program) { p.Funcs[main].Regs[9].Kind = 4 }, "name"},
		{"a register of no record", func(p *api.Program) { p.Funcs[main].Regs[8].N = 3 }, "name"},
		{"another Main", func(p *api.Program) { p.Main = 0 }, ""},
		{"no Main", func(p *api.Program) { p.Main = 5 }, "name"},
		{"a Main below 0", func(p *api.Program) { p.Main = -1 }, "name"},
		{"nothing but functions and signatures", func(p *api.Program) {
			*p = api.Program{Sigs: []api.Sig{{}}, Funcs: []api.Func{{Regs: []api.Type{{}}, Blocks: []api.Block{gives(0)}}}}
		}, ""},
		{"no signatures at all", func(p *api.Program) {
			*p = api.Program{Funcs: []api.Func{{Regs: []api.Type{{}}, Blocks: []api.Block{gives(0)}}}}
		}, "name"},
		// Impls are asked by doc/12.
		{"an Impl of a wrong function", func(p *api.Program) { p.Impls[0].Funcs[0] = 4 }, ""},
		{"an Impl of no functions", func(p *api.Program) { p.Impls[1].Funcs = nil }, ""},
		{"an Impl of many functions", func(p *api.Program) { p.Impls[0].Funcs = []int{0, 0, 0} }, ""},
		{"an Impl twice", func(p *api.Program) { p.Impls = append(p.Impls, p.Impls[0]) }, ""},
	})
}

// places gives the numbers of i, by the letters of counted.
func places(i *api.Instr) map[rune]*int {
	return map[rune]*int{'D': &i.Dst, 'A': &i.A, 'B': &i.B, 'N': &i.N}
}

// counted gives what counts, by Op; *: Args.
func counted() map[int]string {
	return map[int]string{
		api.OConst: "DN", api.OAdd: "DAB", api.OSource: "D", api.ONil: "D", api.OAlloc: "D", api.OCopy: "DA", api.OMake: "DA",
		api.OLoad: "DAN", api.OStore: "ABN", api.OFree: "A", api.OSink: "A", api.OFun: "DN", api.OCall: "DN*", api.OCallR: "DA*",
		api.OCallI: "DAN*",
	}
}

// Each number of each instruction: one that counts and is no register is refused, and one that does not count and is not 0.
func TestNamesOfInstructions(t *testing.T) {
	met := make(map[int]struct{})
	for b, block := range blocks() {
		for i, was := range block.Code {
			met[was.Op] = struct{}{}
			for letter := range places(&was) {
				for _, n := range append(noNames(10), 1, 2, 9) {
					holdNumber(t, b, i, letter, n)
				}
			}
		}
	}
	if len(met) != len(counted()) {
		t.Errorf("P10.1: %d of %d Ops are asked", len(met), len(counted()))
	}
}

// holdNumber puts n into an instruction of main.
func holdNumber(t *testing.T, b, i int, letter rune, n int) {
	t.Helper()
	p := great()
	in := &p.Funcs[main].Blocks[b].Code[i]
	*places(in)[letter] = n
	counts := strings.ContainsRune(counted()[in.Op], letter)
	reg := 0 <= n && n < 10
	if letter == 'N' && counts || letter == 'A' && reg && strings.Contains(counted()[in.Op], "AN") {
		return // fields, methods and functions have tests of their own
	}
	want := ""
	if !counts || !reg {
		want = fmt.Sprintf("name %d.%d.%d", main, b, i)
	}
	if got := told(types.Names(p)); got != want {
		t.Errorf("P10.1: %+v with %c %d: %q, want %q", *in, letter, n, got, want)
	}
	if want != "" && types.Fits(p, main, *in) {
		t.Errorf("P10.2: %+v with %c %d fits, but Names refuses it", *in, letter, n)
	}
}

func TestNamesOfArgs(t *testing.T) {
	const regs = 10
	for b, block := range blocks() {
		for i, was := range block.Code {
			at := fmt.Sprintf("name %d.%d.%d", main, b, i)
			call := strings.Contains(counted()[was.Op], "*")
			for _, n := range append(noNames(regs), 0, 1, regs-1) {
				for k := range 4 {
					p := great()
					args := []int{0, 0, 0, 0}
					args[k] = n
					p.Funcs[main].Blocks[b].Code[i].Args = args
					want := at
					if call && n >= 0 && n < regs {
						want = ""
					}
					if got := told(types.Names(p)); got != want {
						t.Errorf("P10.1: %+v with Args %v: %q, want %q", was, args, got, want)
					}
					if want != "" && types.Fits(p, main, p.Funcs[main].Blocks[b].Code[i]) {
						t.Errorf("P10.2: %+v with Args %v fits, but Names refuses it", was, args)
					}
				}
			}
			for _, none := range [][]int{nil, {}} {
				p := great()
				p.Funcs[main].Blocks[b].Code[i].Args = none
				if got := told(types.Names(p)); got != "" {
					t.Errorf("P10.1: %+v without Args: %q", was, got)
				}
			}
		}
	}
}

func TestNamesOfNumbers(t *testing.T) {
	for _, x := range []struct {
		name string
		b, i int
		n    int // how many there are
	}{
		{"a field that is stored", 0, 5, 2},
		{"a field that is loaded", 1, 0, 2},
		{"a method of one", 1, 3, 1},
		{"a method of two", 1, 7, 2},
		{"a function as a value", 1, 4, 5},
		{"a function that is called", 2, 0, 5},
	} {
		at := fmt.Sprintf("name %d.%d.%d", main, x.b, x.i)
		for _, n := range noNames(x.n) {
			hold(t, "P10.1", types.Names, []turned{{fmt.Sprint(x.name, " ", n), instr(x.b, x.i, func(i *api.Instr) { i.N = n }), at}})
		}
		for n := range x.n {
			hold(t, "P10.1", types.Names, []turned{{fmt.Sprint(x.name, " ", n), instr(x.b, x.i, func(i *api.Instr) { i.N = n }), ""}})
		}
	}
	for _, n := range append(noNames(0), 0, 1) {
		hold(t, "P10.1", types.Names, []turned{{fmt.Sprint("a constant ", n), instr(0, 0, func(i *api.Instr) { i.N = n }), ""}})
	}
}

// Of a register of another kind no field and no method is asked.
func TestNamesOfOtherKinds(t *testing.T) {
	for _, n := range append(noNames(0), 0, 99) {
		for a, kind := range great().Funcs[main].Regs {
			field, method := "", ""
			if kind == ptr0 && n != 0 || kind == ptr1 && n != 0 || kind == ptr2 {
				field = "name 4.1.0"
			}
			if kind == iface0 && n != 0 || kind == iface1 && n != 0 {
				method = "name 4.1.3"
			}
			// noNames(0) has 1, which is a field, or a method, of some.
			if n == 1 {
				continue
			}
			hold(t, "P10.1", types.Names, []turned{
				{fmt.Sprintf("the field %d of r%d", n, a), instr(1, 0, func(i *api.Instr) { i.A, i.N = a, n }), field},
				{fmt.Sprintf("the method %d of r%d", n, a), instr(1, 3, func(i *api.Instr) { i.A, i.N = a, n }), method},
			})
		}
	}
	hold(t, "P10.1", types.Names, []turned{
		{"the last field of another record", instr(1, 0, func(i *api.Instr) { i.A, i.N = 6, 2 }), ""},
		{"behind the fields of another record", instr(1, 0, func(i *api.Instr) { i.A, i.N = 6, 3 }), "name 4.1.0"},
		{"the last field of another record, stored", instr(0, 5, func(i *api.Instr) { i.A, i.N = 6, 2 }), ""},
		{"behind the fields of another record, stored", instr(0, 5, func(i *api.Instr) { i.A, i.N = 6, 3 }), "name 4.0.5"},
		{"a field of no register", instr(1, 0, func(i *api.Instr) { i.A, i.N = 10, 0 }), "name 4.1.0"},
	})
}

func TestNamesOfOps(t *testing.T) {
	for _, op := range append(noNames(16), 0) {
		hold(t, "P10.1", types.Names, []turned{
			{fmt.Sprint("the Op ", op), instr(0, 0, func(i *api.Instr) { *i = api.Instr{Op: op} }), "name 4.0.0"},
			{fmt.Sprint("the last Op ", op), instr(3, 0, func(i *api.Instr) { *i = api.Instr{Op: op} }), "name 4.3.0"},
		})
	}
	for _, e := range append(noNames(4), 0) {
		hold(t, "P10.1", types.Names, []turned{
			{fmt.Sprint("the End ", e), end(0, func(b *api.Block) { *b = api.Block{End: e} }), "name 4.0.0"},
			{fmt.Sprint("the last End ", e), end(3, func(b *api.Block) { b.End = e }), "name 4.3.1"},
		})
	}
}

func TestNamesOfEnds(t *testing.T) {
	for _, x := range []struct {
		b            int
		at           string
		reg, to, els bool // whether it counts
	}{
		{0, "name 4.0.8", true, true, true},
		{1, "name 4.1.8", false, true, false},
		{3, "name 4.3.1", true, false, false},
	} {
		want := func(named bool) string {
			if named {
				return ""
			}
			return x.at
		}
		for _, n := range append(noNames(4), 1, 2, 3) {
			block := 0 <= n && n < 4
			hold(t, "P10.1", types.Names, []turned{
				{fmt.Sprintf("To %d of block %d", n, x.b), end(x.b, func(b *api.Block) { b.To = n }), want(x.to && block)},
				{fmt.Sprintf("Else %d of block %d", n, x.b), end(x.b, func(b *api.Block) { b.Else = n }), want(x.els && block)},
			})
		}
		for _, n := range append(noNames(10), 1, 9) {
			reg := 0 <= n && n < 10
			hold(t, "P10.1", types.Names, []turned{
				{fmt.Sprintf("Reg %d of block %d", n, x.b), end(x.b, func(b *api.Block) { b.Reg = n }), want(x.reg && reg)},
			})
		}
	}
}

// Of several wrong names the first one is told.
func TestNamesInOrder(t *testing.T) {
	// From the last to the first: each one put in ahead of those behind it.
	l := []turned{
		{"Main", func(p *api.Program) { p.Main = 5 }, "name"},
		{"the last end", end(3, func(b *api.Block) { b.End = 0 }), "name 4.3.1"},
		{"the last instruction", instr(3, 0, func(i *api.Instr) { i.Dst = 10 }), "name 4.3.0"},
		{"an end", end(1, func(b *api.Block) { b.Reg = 1 }), "name 4.1.8"},
		{"an instruction", instr(1, 2, func(i *api.Instr) { i.B = 1 }), "name 4.1.2"},
		{"an instruction ahead of it", instr(1, 1, func(i *api.Instr) { i.B = 1 }), "name 4.1.1"},
		{"the first instruction", instr(0, 0, func(i *api.Instr) { i.Op = 0 }), "name 4.0.0"},
		{"a register", func(p *api.Program) { p.Funcs[main].Regs[9].N = 6 }, "name"},
		{"another function's end", func(p *api.Program) { p.Funcs[3].Blocks[0].To = 1 }, "name 3.0.1"},
		{"a function's signature", func(p *api.Program) { p.Funcs[3].Sig = 6 }, "name"},
		{"a third function's instruction", func(p *api.Program) { p.Funcs[0].Blocks[0].Code[0].N = 2 }, "name 0.0.0"},
		{"an Impl", func(p *api.Program) { p.Impls[1].Funcs[1] = 5 }, "name"},
	}
	p := great()
	for _, x := range l {
		x.turn(p)
		if got := told(types.Names(p)); got != x.want {
			t.Errorf("P10.1: %s: %q, want %q", x.name, got, x.want)
		}
	}
}

// The tables come ahead of the functions, and a function's own registers ahead of its points.
func TestNamesOfTablesComeFirst(t *testing.T) {
	for name, turn := range map[string]func(p *api.Program){
		"a record":     func(p *api.Program) { p.Records[1][2].N = 3 },
		"a signature":  func(p *api.Program) { p.Sigs[5].Result.N = 1 },
		"an interface": func(p *api.Program) { p.Ifaces[1].Sigs[1] = 6 },
		"an Impl":      func(p *api.Program) { p.Impls[1].Iface = 2 },
		"its Sig":      func(p *api.Program) { p.Funcs[0].Sig = -1 },
		"a register":   func(p *api.Program) { p.Funcs[0].Regs[1].N = 1 },
	} {
		p := great()
		p.Funcs[0].Blocks[0].Code[0].Op = 0
		turn(p)
		if got := told(types.Names(p)); got != "name" {
			t.Errorf("P10.1: %s and the first point: %q", name, got)
		}
	}
	p := great()
	p.Funcs[0].Blocks[0].Code[0].Op, p.Funcs[1].Sig, p.Funcs[1].Regs[0].N, p.Main = 0, 6, 1, 5
	if got := told(types.Names(p)); got != "name 0.0.0" {
		t.Errorf("P10.1: the first point and what is behind it: %q", got)
	}
}

func TestNothing(t *testing.T) {
	for name, p := range map[string]*api.Program{"nil": nil, "empty": {}, "empty lists": {Records: [][]api.Type{}, Funcs: []api.Func{}}} {
		if got := told(types.Bounds(p)); got != "bound" {
			t.Errorf("P10.1: %s: Bounds %q", name, got)
		}
		if got := told(types.Names(p)); got != "name" {
			t.Errorf("P0.1: %s: Names %q", name, got)
		}
		if got := told(types.Check(p)); got != "type" {
			t.Errorf("P0.1: %s: Check %q", name, got)
		}
		for f := -1; f <= 1; f++ {
			for op := -1; op <= 16; op++ {
				if types.Fits(p, f, api.Instr{Op: op}) {
					t.Errorf("P10.2: %s: the Op %d fits", name, op)
				}
			}
		}
	}
}
