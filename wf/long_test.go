package wf_test

import (
	"math"
	"reflect"
	"slices"
	"testing"

	"haruspex/api"
	"haruspex/wf"
)

// Programs whose names are not right: Check refuses them as Names does, and Methods ends and does not panic.
func TestWrongNames(t *testing.T) {
	values := []int{-1, -2, 3, 6, 17, 1 << 31, 1 << 32, 1<<32 + 1, math.MaxInt, math.MaxInt - 1, math.MinInt, math.MinInt + 1}
	count := len(numbers(reflect.ValueOf(great()).Elem()))
	for k := range count {
		for _, n := range values {
			p := great()
			numbers(reflect.ValueOf(p).Elem())[k].SetInt(int64(n))
			holdModel(t, p)
		}
	}
	// All numbers at once.
	for _, n := range values {
		p := great()
		for _, place := range numbers(reflect.ValueOf(p).Elem()) {
			place.SetInt(int64(n))
		}
		holdModel(t, p)
	}
}

// An Impl that names what there is not is none.
func TestMethodsOfWrongNames(t *testing.T) {
	for _, n := range []int{-1, -2, 6, 7, 1 << 32, math.MaxInt, math.MinInt} {
		for k, turn := range []func(p *api.Program){
			func(p *api.Program) { p.Impls[0].Rec = n },
			func(p *api.Program) { p.Impls[3].Rec = n },
			func(p *api.Program) { p.Impls[0].Iface = n },
			func(p *api.Program) { p.Impls[3].Iface = n },
			func(p *api.Program) { p.Impls[0].Funcs[0] = n },
			func(p *api.Program) { p.Impls[2].Funcs[2] = n },
			func(p *api.Program) { p.Ifaces[1].Sigs[0] = n },
			func(p *api.Program) { p.Funcs[1].Sig = n },
			func(p *api.Program) { p.Ifaces[1].Sigs[0], p.Funcs[1].Sig, p.Funcs[2].Sig = n, n, n },
			func(p *api.Program) { p.Impls[0].Rec, p.Sigs[1].Params[0].N = n, n },
		} {
			p := great()
			turn(p)
			if got := told(wf.Methods(p)); got != none {
				t.Errorf("P0.1: %d, with %d: %q", k, n, got)
			}
		}
	}
	// Without the lists that are named.
	for k, p := range []*api.Program{
		{Impls: make([]api.Impl, 1)},
		{Impls: make([]api.Impl, 1), Records: make([][]api.Type, 1)},
		{Impls: make([]api.Impl, 1), Ifaces: make([]api.Iface, 1)},
		{Impls: great().Impls, Ifaces: great().Ifaces, Records: great().Records},
		{Impls: great().Impls, Ifaces: great().Ifaces, Records: great().Records, Sigs: great().Sigs},
		{Impls: great().Impls, Ifaces: great().Ifaces, Records: great().Records, Funcs: great().Funcs},
	} {
		if got := told(wf.Methods(p)); got != none {
			t.Errorf("P0.1: %d: %q", k, got)
		}
	}
}

// full gives a program at all its limits at once that may be: 12 Impls of 3 methods, 10 signatures, 600 points.
func full() *api.Program {
	p := &api.Program{
		Records: slices.Repeat([][]api.Type{slices.Repeat([]api.Type{{Kind: api.TPtr, N: api.MaxRecs - 1}}, api.MaxFields)}, api.MaxRecs),
		Sigs:    []api.Sig{{}, {Params: []api.Type{num, num, num}}},
		Ifaces:  []api.Iface{{Sigs: []int{0, 0, 0}}, {Sigs: []int{1, 1, 1}}, {Sigs: []int{0, 0, 0}}, {Sigs: []int{0, 1, 0}}},
	}
	for rec := range api.MaxRecs {
		p.Sigs = append(p.Sigs, api.Sig{Params: []api.Type{{Kind: api.TPtr, N: rec}}})
	}
	for rec := range 2 {
		p.Sigs = append(p.Sigs, api.Sig{Params: []api.Type{{Kind: api.TPtr, N: rec}, num, num, num}})
	}
	for n, s := range append(p.Sigs[2:], p.Sigs[2:5]...) {
		fn := api.Func{Sig: 2 + n%(api.MaxSigs-2), Regs: append(slices.Clone(s.Params), num)}
		fn.Blocks = []api.Block{gives(len(s.Params), api.Instr{Op: api.OConst, Dst: len(s.Params), N: math.MinInt})}
		p.Funcs = append(p.Funcs, fn)
	}
	for rec := range api.MaxRecs {
		p.Impls = append(p.Impls, api.Impl{Rec: rec, Iface: 0, Funcs: []int{rec, rec, rec}}, api.Impl{Rec: rec, Iface: 2, Funcs: []int{rec, rec, rec}})
	}
	p.Impls[10], p.Impls[11] = api.Impl{Rec: 0, Iface: 1, Funcs: []int{6, 6, 6}}, api.Impl{Rec: 1, Iface: 3, Funcs: []int{9, 7, 1}}
	return withMain(p)
}

// withMain fills p with a main of all points and OAllocs that are left: 12 blocks, and another function with more.
func withMain(p *api.Program) *api.Program {
	regs := append(slices.Repeat([]api.Type{{Kind: api.TPtr, N: api.MaxRecs - 1}}, api.MaxRegs-1), num)
	main := api.Func{Regs: regs}
	for b := range api.MaxBlocks {
		code := slices.Repeat([]api.Instr{{Op: api.OConst, Dst: api.MaxRegs - 1, N: math.MaxInt}}, api.MaxCode)
		main.Blocks = append(main.Blocks, api.Block{Code: code, End: api.EBranch, Reg: api.MaxRegs - 1, To: min(b+1, api.MaxBlocks-1)})
	}
	for k := range api.MaxCode {
		main.Blocks[0].Code[k] = api.Instr{Op: api.OAlloc, Dst: k % (api.MaxRegs - 1)}
	}
	main.Blocks[0].Code[api.MaxCode-1] = api.Instr{Op: api.OSource, Dst: api.MaxRegs - 1}
	for k := range api.MaxSites - (api.MaxCode - 1) {
		main.Blocks[1].Code[k] = api.Instr{Op: api.OAlloc, Dst: k}
	}
	p.Main, p.Funcs = len(p.Funcs), append(p.Funcs, main)
	left := api.MaxPoints - points(p)
	fn := &p.Funcs[0]
	fn.Blocks = nil
	for left += 2; left > 0; left -= api.MaxCode + 1 {
		code := slices.Repeat([]api.Instr{{Op: api.OConst, Dst: 1}}, min(left, api.MaxCode+1)-1)
		fn.Blocks = append(fn.Blocks, api.Block{Code: code, End: api.EJump, To: len(fn.Blocks) + 1})
	}
	fn.Blocks[len(fn.Blocks)-1].To = 0
	return p
}

// points tells how many p has.
func points(p *api.Program) int {
	n := 0
	for _, fn := range p.Funcs {
		for _, b := range fn.Blocks {
			n += len(b.Code) + 1
		}
	}
	return n
}

func TestFull(t *testing.T) {
	p := full()
	got := []int{len(p.Records), len(p.Sigs), len(p.Ifaces), len(p.Impls), len(p.Funcs), points(p)}
	if want := []int{api.MaxRecs, api.MaxSigs, api.MaxIfaces, api.MaxImpls, api.MaxFuncs, api.MaxPoints}; !slices.Equal(got, want) {
		t.Fatalf("the test is wrong: %v, want %v", got, want)
	}
	if got := holdModel(t, p); got != "" {
		t.Errorf("P12.1: all limits at once: %q", got)
	}
	if q, err := wf.Load(encoded(t, p)); err != nil || !same(p, q) {
		t.Errorf("P12.1: all limits at once: Load %v", err)
	}
	// The last function of the last Impl, and the last Impl a second one.
	for k, turn := range []func(p *api.Program){
		func(p *api.Program) { p.Impls[api.MaxImpls-1].Funcs[api.MaxMeths-1] = 0 },
		func(p *api.Program) { p.Impls[api.MaxImpls-1] = api.Impl{Rec: 0, Iface: 0, Funcs: []int{0, 0, 0}} },
		func(p *api.Program) { p.Impls[0] = p.Impls[api.MaxImpls-1] },
		func(p *api.Program) { p.Sigs[api.MaxSigs-1].Params[api.MaxParams-1] = ptr1 },
	} {
		p := full()
		turn(p)
		if got := holdModel(t, p); got != around(none) {
			t.Errorf("P12.1: %d: %q", k, got)
		}
	}
	p.Funcs[0].Blocks[0].Code = append(p.Funcs[0].Blocks[0].Code[:1:1], p.Funcs[0].Blocks[0].Code...)
	if got := holdModel(t, p); got != around("bound -1.0.0") {
		t.Errorf("P12.1: a point more: %q", got)
	}
}

// Lists that share one memory again and again are not gone through by Check.
func TestCheckOfLongLists(t *testing.T) {
	const n, m = 1 << 22, 1 << 16
	args := make([]int, n)
	instrs := slices.Repeat([]api.Instr{{Args: args}}, m)
	blocks := slices.Repeat([]api.Block{{Code: instrs}}, m)
	for name, turn := range map[string]func(p *api.Program){
		"records":    func(p *api.Program) { p.Records = slices.Repeat([][]api.Type{make([]api.Type, n)}, m) },
		"signatures": func(p *api.Program) { p.Sigs = slices.Repeat([]api.Sig{{Params: make([]api.Type, n)}}, m) },
		"interfaces": func(p *api.Program) { p.Ifaces = slices.Repeat([]api.Iface{{Sigs: args}}, m) },
		"Impls":      func(p *api.Program) { p.Impls = slices.Repeat([]api.Impl{{Funcs: args}}, m) },
		"functions":  func(p *api.Program) { p.Funcs = slices.Repeat([]api.Func{{Blocks: blocks}}, m) },
		"methods":    func(p *api.Program) { p.Impls[0].Funcs, p.Ifaces[1].Sigs = args, args },
		"a call":     func(p *api.Program) { p.Funcs[0].Blocks[0].Code[0].Args = args },
	} {
		p := great()
		turn(p)
		if got := told(wf.Check(p)); got != around("bound -1.0.0") {
			t.Errorf("P12.1: long %s: %q", name, got)
		}
	}
}

// Of programs that are not in bounds nothing is promised of Methods but that it ends and does not panic.
func TestMethodsOfLongLists(t *testing.T) {
	const n = 1 << 20
	long := func() *api.Program {
		p := great()
		p.Ifaces[1].Sigs, p.Impls[0].Funcs = make([]int, n), slices.Repeat([]int{1}, n)
		p.Impls = p.Impls[:1]
		return p
	}
	params := great()
	params.Sigs[0].Params = make([]api.Type, n)
	params.Sigs[1].Params = append([]api.Type{ptr0}, make([]api.Type, n)...)
	params.Impls = params.Impls[:1]
	recs := great()
	recs.Records, recs.Impls = make([][]api.Type, n), make([]api.Impl, n)
	for k := range recs.Impls {
		recs.Impls[k].Rec = k
	}
	for name, x := range map[string]struct {
		p    *api.Program
		turn func(p *api.Program)
	}{
		"methods":    {long(), func(p *api.Program) { p.Impls[0].Funcs[n-1] = 2 }},
		"parameters": {params, func(p *api.Program) { p.Sigs[1].Params[n] = ptr0 }},
		"Impls":      {recs, func(p *api.Program) { p.Impls[n-1].Rec = 0 }},
	} {
		if got := told(wf.Methods(x.p)); got != "" {
			t.Errorf("P0.1: many %s: %q", name, got)
		}
		x.turn(x.p)
		if got := told(wf.Methods(x.p)); got != none {
			t.Errorf("P0.1: many %s, the last one wrong: %q", name, got)
		}
	}
}
