package sem_test

import (
	"fmt"
	"slices"
	"testing"

	"haruspex/api"
	"haruspex/ir"
	"haruspex/sem"
	"haruspex/types"
	"haruspex/value"
)

// heapText tells all of a heap.
func heapText(h *value.Heap) string {
	text := ""
	for o := int64(1); o <= int64(h.Len()); o++ {
		text += fmt.Sprint(h.Site(o))
		if h.Freed(o) {
			text += "free"
			continue
		}
		var l []api.Value
		for v, why := h.Get(o, 0); why == 0; v, why = h.Get(o, len(l)) {
			l = append(l, v)
		}
		text += fmt.Sprint(l)
	}
	return text
}

// thing is an object of the model.
type thing struct {
	site, rec int
	free      bool
	fields    []api.Value
}

// stop is thrown where a run of the model ends.
type stop struct{ why int }

// model is the promise word by word, to hold a machine against, step by step: it runs a function by calling itself, and
// knows an object by its address.
type model struct {
	t      *testing.T
	p      *api.Program
	m      *sem.Machine
	oracle []int64
	fuel   int
	depth  int
	things []*thing
	points []api.Point
	ops    map[int]int // how many of each kind of instruction were done; of ends with 100 more
}

// before holds all that the machine tells ahead of the step from q.
func (x *model) before(q api.Point, regs map[int]api.Value) {
	if x.fuel--; x.fuel < 0 {
		panic(stop{api.AFuel})
	}
	at := slices.Index(x.points, q)
	if x.m.At() != at || x.m.Depth() != x.depth || x.m.Result() != (api.Value{}) {
		x.t.Fatalf("P14.2: at %d with %d frames, want %d with %d", x.m.At(), x.m.Depth(), at, x.depth)
	}
	for r := -1; r <= api.MaxRegs; r++ {
		v, ok := x.m.Reg(r)
		if want, has := regs[r]; v != want || ok != has {
			x.t.Fatalf("P14.2: at %v register %d: %v, %t, want %v, %t", q, r, v, ok, want, has)
		}
	}
	if x.fuel%16 == 0 || len(x.things) < 6 {
		x.heap()
	}
}

// heap holds the heap.
func (x *model) heap() {
	h := x.m.Heap()
	if h.Len() != len(x.things) {
		x.t.Fatalf("P14.2: %d objects, want %d", h.Len(), len(x.things))
	}
	for k, o := range x.things {
		n := int64(k + 1)
		if h.Site(n) != o.site || h.Freed(n) != o.free {
			x.t.Fatalf("P14.2: object %d: from %d, %t, want %+v", n, h.Site(n), h.Freed(n), *o)
		}
		for field, want := range o.fields {
			if v, why := h.Get(n, field); !o.free && (v != want || why != 0) || o.free && why != api.AFreed {
				x.t.Fatalf("P14.2: object %d, field %d: %v, %d, want %+v", n, field, v, why, *o)
			}
		}
	}
}

// done holds what the machine's step tells.
func (x *model) done(why, called int, sunk bool) {
	if got := x.m.Step(); got != why || x.m.Called() != called || x.m.Sunk() != sunk {
		x.t.Fatalf("P14.1: the step gave %d, Called %d, Sunk %t, want %d, %d, %t", got, x.m.Called(), x.m.Sunk(), why, called, sunk)
	}
	if why != 0 {
		panic(stop{why})
	}
}

// run runs the function f and gives what it returns.
func (x *model) run(f int, args []api.Value) api.Value {
	x.depth++
	regs := map[int]api.Value{}
	for k, v := range args {
		regs[k] = v
	}
	for b := 0; ; {
		block := x.p.Funcs[f].Blocks[b]
		for k, i := range block.Code {
			x.before(api.Point{F: f, B: b, I: k}, regs)
			x.ops[i.Op]++
			x.instr(f, api.Point{F: f, B: b, I: k}, i, regs)
		}
		x.before(api.Point{F: f, B: b, I: len(block.Code)}, regs)
		x.ops[100+block.End]++
		v := regs[block.Reg]
		if block.End == api.EReturn {
			return x.back(v)
		}
		b = block.To
		if block.End == api.EBranch && v.N == 0 {
			b = block.Else
		}
		x.done(0, -1, false)
	}
}

func (x *model) back(v api.Value) api.Value {
	if x.depth == 1 {
		defer func() {
			if x.m.Result() != v {
				x.t.Fatalf("P14.2: the result is %v, want %v", x.m.Result(), v)
			}
		}()
		x.done(api.AEnd, -1, false)
	}
	x.done(0, -1, false)
	x.depth--
	return v
}

// follow gives the object to which v leads; it ends the run where there is none.
func (x *model) follow(v api.Value) *thing {
	if v.Kind == api.VNil {
		x.done(api.ANil, -1, false)
	}
	o := x.things[v.N-1]
	if o.free {
		x.done(api.AFreed, -1, false)
	}
	return o
}

func (x *model) instr(f int, q api.Point, i api.Instr, regs map[int]api.Value) {
	a, b := regs[i.A], regs[i.B]
	v := api.Value{}
	switch i.Op {
	case api.OConst:
		v.N = int64(i.N)
	case api.OAdd:
		v = api.Value{N: a.N + b.N, Taint: a.Taint || b.Taint}
	case api.OSource:
		v.Taint = true
		if len(x.oracle) > 0 {
			v.N = x.oracle[0]
			x.oracle = x.oracle[1:]
		}
	case api.ONil:
		v.Kind = api.VNil
	case api.OAlloc:
		v = x.alloc(q, x.p.Funcs[f].Regs[i.Dst].N)
	case api.OCopy, api.OMake:
		v = a
	case api.OLoad:
		v = x.follow(a).fields[i.N]
	case api.OStore:
		x.follow(a).fields[i.N] = b
	case api.OFree:
		x.follow(a).free = true
	case api.OFun:
		v = api.Value{Kind: api.VFun, N: int64(i.N)}
	case api.OCall, api.OCallR, api.OCallI:
		regs[i.Dst] = x.call(f, i, regs)
		return
	}
	x.done(0, -1, i.Op == api.OSink && a.Taint)
	if i.Op != api.OStore && i.Op != api.OFree && i.Op != api.OSink {
		regs[i.Dst] = v
	}
}

func (x *model) alloc(q api.Point, rec int) api.Value {
	if len(x.things) == 400 {
		x.done(api.ADeep, -1, false)
	}
	o := &thing{site: slices.Index(x.points, q), rec: rec}
	for _, t := range x.p.Records[rec] {
		o.fields = append(o.fields, api.Value{Kind: min(t.Kind, 1)})
	}
	x.things = append(x.things, o)
	return api.Value{Kind: api.VPtr, N: int64(len(x.things))}
}

func (x *model) call(f int, i api.Instr, regs map[int]api.Value) api.Value {
	g, a := i.N, regs[i.A]
	var args []api.Value
	if i.Op != api.OCall && a.Kind == api.VNil {
		x.done(api.ANil, -1, false)
	}
	if i.Op == api.OCallR {
		g = int(a.N)
	}
	if i.Op == api.OCallI {
		of := [2]int{x.things[a.N-1].rec, x.p.Funcs[f].Regs[i.A].N}
		impls := map[[2]int][]int{}
		for _, y := range x.p.Impls {
			impls[[2]int{y.Rec, y.Iface}] = y.Funcs
		}
		g, args = impls[of][i.N], append(args, a)
	}
	for _, r := range i.Args {
		args = append(args, regs[r])
	}
	if x.depth == 60 {
		x.done(api.ADeep, -1, false)
	}
	x.done(0, g, false)
	return x.run(g, args)
}

// hold holds a machine for p against the model and gives how the run ended.
func hold(t *testing.T, p *api.Program, oracle []int64, fuel int, ops map[int]int) (why int) {
	t.Helper()
	m := start(t, p, oracle...)
	quiet(t, m)
	x := &model{t: t, p: p, m: m, oracle: oracle, fuel: fuel, points: ir.Points(p), ops: ops}
	defer func() {
		if s, ok := recover().(stop); ok {
			why = s.why
			x.heap()
			if why != api.AFuel {
				ends(t, m, why)
			}
		}
	}()
	x.run(p.Main, nil)
	return 0
}

// dice gives the same numbers at each run.
type dice uint64

func (d *dice) roll(n int) int {
	*d = *d*6364136223846793005 + 1442695040888963407
	return int(uint64(*d)>>33) % n
}

// maker rolls a function of a program: kinds of instructions by their weights.
type maker struct {
	d       *dice
	p       *api.Program
	f       int
	weights []int
	has     []int // the registers that have a value
}

// of gives a register of this type; false: none of them has a value.
func (x *maker) of(t api.Type) (int, bool) {
	var l []int
	for _, r := range x.has {
		if x.p.Funcs[x.f].Regs[r] == t {
			l = append(l, r)
		}
	}
	if len(l) == 0 {
		return 0, false
	}
	return l[x.d.roll(len(l))], true
}

// rolled gives an instruction that fits and reads only what has a value.
func (x *maker) rolled(ops ...int) api.Instr {
	regs := x.p.Funcs[x.f].Regs
	one := func() int { return x.has[x.d.roll(len(x.has))] }
	for {
		i := api.Instr{Op: ops[x.d.roll(len(ops))]}
		if len(x.has) == 0 && !slices.Contains([]int{api.OConst, api.OSource, api.ONil, api.OAlloc, api.OFun}, i.Op) {
			continue
		}
		if i.Op != api.OStore && i.Op != api.OFree && i.Op != api.OSink {
			i.Dst = x.d.roll(len(regs))
		}
		switch i.Op {
		case api.OConst:
			i.N = x.d.roll(5) - 2
		case api.OAdd:
			i.A, i.B = one(), one()
		case api.OCopy, api.OMake, api.OFree, api.OSink:
			i.A = one()
		case api.OLoad:
			i.A, i.N = one(), x.d.roll(4)
		case api.OStore:
			i.A, i.B, i.N = one(), one(), x.d.roll(4)
		case api.OFun, api.OCall:
			i.N = x.d.roll(len(x.p.Funcs))
		case api.OCallR:
			i.A = one()
		case api.OCallI:
			i.A, i.N = one(), x.d.roll(2)
		}
		if x.args(&i) && types.Fits(x.p, x.f, i) {
			return i
		}
	}
}

// args puts arguments to a call; false: there are none for it.
func (x *maker) args(i *api.Instr) bool {
	p, sig := x.p, 0
	t := p.Funcs[x.f].Regs[i.A]
	switch {
	case i.Op == api.OCall:
		sig = p.Funcs[i.N].Sig
	case i.Op == api.OCallR && t.Kind == api.TFun:
		sig = t.N
	case i.Op == api.OCallI && t.Kind == api.TIface && i.N < len(p.Ifaces[t.N].Sigs):
		sig = p.Ifaces[t.N].Sigs[i.N]
	default:
		return i.Op != api.OCallR && i.Op != api.OCallI
	}
	for _, t := range p.Sigs[sig].Params {
		r, ok := x.of(t)
		if !ok {
			return false
		}
		i.Args = append(i.Args, r)
	}
	return true
}

// add puts i behind b's code.
func (x *maker) add(b *api.Block, i api.Instr) {
	b.Code = append(b.Code, i)
	if r, ok := ir.Def(i); ok && !slices.Contains(x.has, r) {
		x.has = append(x.has, r)
	}
}

// begin gives most registers a value, and one of those that may be returned for sure.
func (x *maker) begin(b *api.Block, result api.Type) {
	fn := x.p.Funcs[x.f]
	for r := range fn.Regs {
		if slices.Contains(x.has, r) || x.d.roll(8) == 0 {
			continue
		}
		ops := []int{api.ONil}
		switch fn.Regs[r].Kind {
		case api.TInt:
			ops = []int{api.OConst, api.OSource, api.OSource}
		case api.TPtr:
			ops = []int{api.OAlloc, api.OAlloc, api.OAlloc, api.OAlloc, api.ONil}
		case api.TFun:
			ops = []int{api.OFun, api.OFun, api.OFun, api.OFun, api.ONil}
		case api.TIface:
			if _, ok := x.of(ptr0); ok {
				ops = []int{api.OMake, api.OMake, api.OMake, api.OMake, api.ONil}
			}
		}
		x.add(b, x.into(r, ops))
	}
	for _, t := range []api.Type{num, result} {
		if _, ok := x.of(t); !ok {
			r := slices.Index(fn.Regs, t)
			op := api.ONil
			if t == num {
				op = api.OSource
			}
			x.add(b, api.Instr{Op: op, Dst: r})
		}
	}
}

// into rolls an instruction that defines r.
func (x *maker) into(r int, ops []int) api.Instr {
	for {
		if i := x.rolled(ops...); i.Dst == r {
			return i
		}
	}
}

// function rolls the blocks of the function f.
func (x *maker) function(result api.Type) []api.Block {
	blocks := make([]api.Block, 1+x.d.roll(4))
	x.begin(&blocks[0], result)
	first := slices.Clone(x.has)
	for k := range blocks {
		b := &blocks[k]
		if k > 0 {
			x.has = slices.Clone(first)
		}
		for n := x.d.roll(6); n > 0; n-- {
			x.add(b, x.rolled(x.weights...))
		}
		next := min(k+1, len(blocks)-1)
		switch b.Reg, _ = x.of(num); {
		case k == len(blocks)-1 && x.d.roll(10) > 0:
			b.End = api.EReturn
			b.Reg, _ = x.of(result)
		case x.d.roll(3) == 0:
			b.End, b.Reg, b.To = api.EJump, 0, next
		case x.d.roll(2) == 0:
			b.End, b.To, b.Else = api.EBranch, next, x.d.roll(len(blocks))
		default:
			b.End, b.To, b.Else = api.EBranch, x.d.roll(len(blocks)), next
		}
	}
	return blocks
}

// program rolls a program that may be.
func program(d *dice) *api.Program {
	for {
		if p := some(d); types.Bounds(p) == nil {
			return p
		}
	}
}

// some rolls a program that may be, unless it is beyond a limit.
func some(d *dice) *api.Program {
	p := base(nil)
	p.Funcs, p.Main = nil, theMain+d.roll(2)
	for _, sig := range []int{1, 2, 3, 4, 5, 7, 0, 0, 1 + d.roll(6)} {
		fn := api.Func{Sig: sig, Regs: append(slices.Clone(p.Sigs[sig].Params), p.Sigs[sig].Result, num, ptr0)}
		for range 3 + d.roll(8) {
			fn.Regs = append(fn.Regs, []api.Type{num, ptr0, ptr1, iface0, iface1, fun1, fun3, {Kind: api.TFun}}[d.roll(8)])
		}
		p.Funcs = append(p.Funcs, fn)
	}
	weights := slices.Repeat([]int{1, 2, 3, 5, 6, 7, 7, 8, 8, 10, 11, 12, 13, 13, 14, 14, 14, 15}, 2)
	weights = append(weights, 4, 9)
	for range d.roll(3) {
		weights = append(weights, []int{4, 5, 9, 12, 14, 7}[d.roll(6)])
	}
	for f := range p.Funcs {
		x := &maker{d: d, p: p, f: f, weights: weights}
		for r := range p.Sigs[p.Funcs[f].Sig].Params {
			x.has = append(x.has, r)
		}
		p.Funcs[f].Blocks = x.function(p.Sigs[p.Funcs[f].Sig].Result)
	}
	return p
}

// oracle rolls numbers from without, few of them zeros.
func oracle(d *dice) []int64 {
	l := make([]int64, d.roll(60))
	for k := range l {
		l[k] = int64(d.roll(4) - 1)
	}
	return l
}

func TestRolled(t *testing.T) {
	d := dice(14)
	whys, ops := map[int]int{}, map[int]int{}
	for range 3000 {
		whys[hold(t, program(&d), oracle(&d), 600, ops)]++
	}
	for _, why := range []int{api.ANil, api.AFreed, api.AEnd, api.AFuel, api.ADeep} {
		if whys[why] < 50 {
			t.Errorf("the test is weak: %v runs by their ends", whys)
		}
	}
	for op := api.OConst; op <= api.OSink; op++ {
		if ops[op] < 1000 || ops[100+api.EJump] < 1000 || ops[100+api.EBranch] < 1000 || ops[100+api.EReturn] < 1000 {
			t.Errorf("the test is weak: %v steps by their kinds", ops)
		}
	}
}
