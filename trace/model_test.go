package trace_test

import (
	"slices"
	"testing"

	"haruspex/api"
	"haruspex/ir"
	"haruspex/trace"
	"haruspex/types"
)

// thing is an object of the model.
type thing struct {
	n, rec int
	free   bool
	fields []api.Value
}

// halt is thrown where a run of the model is over.
type halt struct{}

// model is the promise word by word, to hold traces against: it runs a function by calling itself, knows nothing of
// sem, and writes down what happens where it happens.
type model struct {
	p      *api.Program
	oracle []int64
	fuel   int
	depth  int
	things []*thing
	points []api.Point

	events []trace.Event
	steps  int
	why    int
	ops    map[int]int // how many of each kind of instruction were begun
	alarms map[api.Alarm]int
	calls  map[api.Edge]int
}

// step begins the step at q and gives the number of q.
func (x *model) step(q api.Point) int {
	if x.steps == x.fuel {
		x.why = api.AFuel
		panic(halt{})
	}
	x.steps++
	return slices.Index(x.points, q)
}

func (x *model) tell(at, kind, n int) {
	x.events = append(x.events, trace.Event{At: at, Kind: kind, N: n})
}

// stop ends the run.
func (x *model) stop(at, why int) {
	x.tell(at, 4, why)
	if why < 3 {
		x.alarms[api.Alarm{Kind: why, At: at}]++
	}
	x.why = why
	panic(halt{})
}

// run runs the function f and gives what it returns.
func (x *model) run(f int, args []api.Value) api.Value {
	x.depth++
	regs := map[int]api.Value{}
	for k, v := range args {
		regs[k] = v
	}
	for b := 0; ; {
		block := x.p.Funcs[f].Blocks[b]
		for k, i := range block.Code {
			at := x.step(api.Point{F: f, B: b, I: k})
			x.ops[i.Op]++
			x.instr(f, at, i, regs)
		}
		at := x.step(api.Point{F: f, B: b, I: len(block.Code)})
		v := regs[block.Reg]
		if block.End == api.EReturn {
			if x.depth == 1 {
				x.stop(at, api.AEnd)
			}
			x.depth--
			return v
		}
		b = block.To
		if block.End == api.EBranch && v.N == 0 {
			b = block.Else
		}
	}
}

// follow gives the object to which v leads; it ends the run where there is none.
func (x *model) follow(at int, v api.Value) *thing {
	if v.Kind == api.VNil {
		x.stop(at, api.ANil)
	}
	o := x.things[v.N-1]
	if o.free {
		x.stop(at, api.AFreed)
	}
	return o
}

func (x *model) instr(f, at int, i api.Instr, regs map[int]api.Value) {
	a, b := regs[i.A], regs[i.B]
	v := api.Value{}
	switch i.Op {
	case api.OConst:
		v.N = int64(i.N)
	case api.OAdd:
		v = api.Value{N: a.N + b.N, Taint: a.Taint || b.Taint}
	case api.OSource:
		v.Taint = true
		if len(x.oracle) > 0 {
			v.N = x.oracle[0]
			x.oracle = x.oracle[1:]
		}
	case api.ONil:
		v.Kind = api.VNil
	case api.OAlloc:
		v = x.alloc(at, x.p.Funcs[f].Regs[i.Dst].N)
	case api.OCopy, api.OMake:
		v = a
	case api.OLoad:
		v = x.follow(at, a).fields[i.N]
	case api.OStore:
		x.follow(at, a).fields[i.N] = b
	case api.OFree:
		x.follow(at, a).free = true
	case api.OFun:
		v = api.Value{Kind: api.VFun, N: int64(i.N)}
	case api.OCall, api.OCallR, api.OCallI:
		v = x.call(f, at, i, regs)
	case api.OSink:
		if a.Taint {
			x.tell(at, 2, 0)
			x.alarms[api.Alarm{Kind: 3, At: at}]++
		}
	}
	if i.Op != api.OStore && i.Op != api.OFree && i.Op != api.OSink {
		regs[i.Dst] = v
	}
}

func (x *model) alloc(at, rec int) api.Value {
	if len(x.things) == 400 {
		x.stop(at, api.ADeep)
	}
	o := &thing{n: len(x.things) + 1, rec: rec}
	for _, t := range x.p.Records[rec] {
		o.fields = append(o.fields, api.Value{Kind: min(t.Kind, 1)})
	}
	x.things = append(x.things, o)
	x.tell(at, 3, o.n)
	return api.Value{Kind: api.VPtr, N: int64(o.n)}
}

func (x *model) call(f, at int, i api.Instr, regs map[int]api.Value) api.Value {
	g, a := i.N, regs[i.A]
	var args []api.Value
	if i.Op != api.OCall && a.Kind == api.VNil {
		x.stop(at, api.ANil)
	}
	if i.Op == api.OCallR {
		g = int(a.N)
	}
	if i.Op == api.OCallI {
		of := [2]int{x.things[a.N-1].rec, x.p.Funcs[f].Regs[i.A].N}
		impls := map[[2]int][]int{}
		for _, y := range x.p.Impls {
			impls[[2]int{y.Rec, y.Iface}] = y.Funcs
		}
		g, args = impls[of][i.N], append(args, a)
	}
	for _, r := range i.Args {
		args = append(args, regs[r])
	}
	if x.depth == 60 {
		x.stop(at, api.ADeep)
	}
	x.tell(at, 1, g)
	x.calls[api.Edge{At: at, To: g}]++
	return x.run(g, args)
}

// expect runs the model.
func expect(p *api.Program, oracle []int64, fuel int) (x *model) {
	x = &model{p: p, oracle: oracle, fuel: min(max(fuel, 0), 3000), points: ir.Points(p), ops: map[int]int{}, alarms: map[api.Alarm]int{}, calls: map[api.Edge]int{}}
	defer func() {
		if thrown := recover(); thrown != (halt{}) {
			panic(thrown)
		}
	}()
	x.run(p.Main, nil)
	return x
}

// alarmList gives the alarms by Kind, then At.
func (x *model) alarmList() []api.Alarm {
	var l []api.Alarm
	for kind := range 4 {
		for at := range x.points {
			if a := (api.Alarm{Kind: kind, At: at}); x.alarms[a] > 0 {
				l = append(l, a)
			}
		}
	}
	return l
}

// callList gives the calls by At, then To.
func (x *model) callList() []api.Edge {
	var l []api.Edge
	for at := range x.points {
		for to := range x.p.Funcs {
			if e := (api.Edge{At: at, To: to}); x.calls[e] > 0 {
				l = append(l, e)
			}
		}
	}
	return l
}

// hold holds what trace tells of a run against the model, and gives the model.
func hold(t *testing.T, p *api.Program, oracle []int64, fuel int) *model {
	t.Helper()
	may(t, p)
	x := expect(p, oracle, fuel)
	l, steps, why := trace.Run(p, oracle, fuel)
	if !slices.Equal(l, x.events) || steps != x.steps || why != x.why {
		t.Fatalf("P15.1: fuel %d: %v, %d, %d, want %v, %d, %d of\n%s", fuel, l, steps, why, x.events, x.steps, x.why, ir.Print(p))
	}
	if got, want := trace.Alarms(p, oracle, fuel), x.alarmList(); !slices.Equal(got, want) {
		t.Fatalf("P15.1: fuel %d: alarms %v, want %v of\n%s", fuel, got, want, ir.Print(p))
	}
	if got, want := trace.Calls(p, oracle, fuel), x.callList(); !slices.Equal(got, want) {
		t.Fatalf("P15.1: fuel %d: calls %v, want %v of\n%s", fuel, got, want, ir.Print(p))
	}
	return x
}

// dice gives the same numbers at each run.
type dice uint64

func (d *dice) roll(n int) int {
	*d = *d*6364136223846793005 + 1442695040888963407
	return int(uint64(*d)>>33) % n
}

// maker rolls a function of a program: kinds of instructions by their weights.
type maker struct {
	d       *dice
	p       *api.Program
	f       int
	weights []int
	has     []int // the registers that have a value
}

// of gives a register of this type; false: none of them has a value.
func (x *maker) of(t api.Type) (int, bool) {
	var l []int
	for _, r := range x.has {
		if x.p.Funcs[x.f].Regs[r] == t {
			l = append(l, r)
		}
	}
	if len(l) == 0 {
		return 0, false
	}
	return l[x.d.roll(len(l))], true
}

// rolled gives an instruction that fits and reads only what has a value.
func (x *maker) rolled(ops ...int) api.Instr {
	regs := x.p.Funcs[x.f].Regs
	one := func() int { return x.has[x.d.roll(len(x.has))] }
	for {
		i := api.Instr{Op: ops[x.d.roll(len(ops))]}
		if len(x.has) == 0 && !slices.Contains([]int{api.OConst, api.OSource, api.ONil, api.OAlloc, api.OFun}, i.Op) {
			continue
		}
		if i.Op != api.OStore && i.Op != api.OFree && i.Op != api.OSink {
			i.Dst = x.d.roll(len(regs))
		}
		switch i.Op {
		case api.OConst:
			i.N = x.d.roll(5) - 2
		case api.OAdd:
			i.A, i.B = one(), one()
		case api.OCopy, api.OMake, api.OFree, api.OSink:
			i.A = one()
		case api.OLoad:
			i.A, i.N = one(), x.d.roll(4)
		case api.OStore:
			i.A, i.B, i.N = one(), one(), x.d.roll(4)
		case api.OFun, api.OCall:
			i.N = x.d.roll(len(x.p.Funcs))
		case api.OCallR:
			i.A = one()
		case api.OCallI:
			i.A, i.N = one(), x.d.roll(2)
		}
		if x.args(&i) && types.Fits(x.p, x.f, i) {
			return i
		}
	}
}

// args puts arguments to a call; false: there are none for it.
func (x *maker) args(i *api.Instr) bool {
	p, sig := x.p, 0
	t := p.Funcs[x.f].Regs[i.A]
	switch {
	case i.Op == api.OCall:
		sig = p.Funcs[i.N].Sig
	case i.Op == api.OCallR && t.Kind == api.TFun:
		sig = t.N
	case i.Op == api.OCallI && t.Kind == api.TIface && i.N < len(p.Ifaces[t.N].Sigs):
		sig = p.Ifaces[t.N].Sigs[i.N]
	default:
		return i.Op != api.OCallR && i.Op != api.OCallI
	}
	for _, t := range p.Sigs[sig].Params {
		r, ok := x.of(t)
		if !ok {
			return false
		}
		i.Args = append(i.Args, r)
	}
	return true
}

// add puts i behind b's code.
func (x *maker) add(b *api.Block, i api.Instr) {
	b.Code = append(b.Code, i)
	if r, ok := ir.Def(i); ok && !slices.Contains(x.has, r) {
		x.has = append(x.has, r)
	}
}

// begin gives most registers a value, and one of those that may be returned for sure.
func (x *maker) begin(b *api.Block, result api.Type) {
	fn := x.p.Funcs[x.f]
	for r := range fn.Regs {
		if slices.Contains(x.has, r) || x.d.roll(8) == 0 {
			continue
		}
		ops := []int{api.ONil}
		switch fn.Regs[r].Kind {
		case api.TInt:
			ops = []int{api.OConst, api.OSource, api.OSource}
		case api.TPtr:
			ops = []int{api.OAlloc, api.OAlloc, api.OAlloc, api.OAlloc, api.ONil}
		case api.TFun:
			ops = []int{api.OFun, api.OFun, api.OFun, api.OFun, api.ONil}
		case api.TIface:
			if _, ok := x.of(ptr0); ok {
				ops = []int{api.OMake, api.OMake, api.OMake, api.OMake, api.ONil}
			}
		}
		x.add(b, x.into(r, ops))
	}
	for _, t := range []api.Type{num, result} {
		if _, ok := x.of(t); !ok {
			r := slices.Index(fn.Regs, t)
			op := api.ONil
			if t == num {
				op = api.OSource
			}
			x.add(b, api.Instr{Op: op, Dst: r})
		}
	}
}

// into rolls an instruction that defines r.
func (x *maker) into(r int, ops []int) api.Instr {
	for {
		if i := x.rolled(ops...); i.Dst == r {
			return i
		}
	}
}

// function rolls the blocks of the function f.
func (x *maker) function(result api.Type) []api.Block {
	blocks := make([]api.Block, 1+x.d.roll(4))
	x.begin(&blocks[0], result)
	first := slices.Clone(x.has)
	for k := range blocks {
		b := &blocks[k]
		if k > 0 {
			x.has = slices.Clone(first)
		}
		for n := x.d.roll(6); n > 0; n-- {
			x.add(b, x.rolled(x.weights...))
		}
		next := min(k+1, len(blocks)-1)
		switch b.Reg, _ = x.of(num); {
		case k == len(blocks)-1 && x.d.roll(10) > 0:
			b.End = api.EReturn
			b.Reg, _ = x.of(result)
		case x.d.roll(3) == 0:
			b.End, b.Reg, b.To = api.EJump, 0, next
		case x.d.roll(2) == 0:
			b.End, b.To, b.Else = api.EBranch, next, x.d.roll(len(blocks))
		default:
			b.End, b.To, b.Else = api.EBranch, x.d.roll(len(blocks)), next
		}
	}
	return blocks
}

// program rolls a program that may be.
func program(d *dice) *api.Program {
	for {
		if p := some(d); types.Bounds(p) == nil {
			return p
		}
	}
}

// some rolls a program that may be, unless it is beyond a limit.
func some(d *dice) *api.Program {
	p := base(nil)
	p.Funcs, p.Main = nil, theMain+d.roll(2)
	for _, sig := range []int{1, 2, 3, 4, 5, 7, 0, 0, 1 + d.roll(6)} {
		fn := api.Func{Sig: sig, Regs: append(slices.Clone(p.Sigs[sig].Params), p.Sigs[sig].Result, num, ptr0)}
		for range 3 + d.roll(8) {
			fn.Regs = append(fn.Regs, []api.Type{num, ptr0, ptr1, iface0, iface1, fun1, fun3, {Kind: api.TFun}}[d.roll(8)])
		}
		p.Funcs = append(p.Funcs, fn)
	}
	weights := slices.Repeat([]int{1, 2, 3, 5, 6, 7, 7, 8, 8, 10, 11, 12, 13, 13, 14, 14, 14, 15}, 2)
	weights = append(weights, 4, 9)
	for range d.roll(3) {
		weights = append(weights, []int{4, 5, 9, 12, 14, 7}[d.roll(6)])
	}
	for f := range p.Funcs {
		x := &maker{d: d, p: p, f: f, weights: weights}
		for r := range p.Sigs[p.Funcs[f].Sig].Params {
			x.has = append(x.has, r)
		}
		p.Funcs[f].Blocks = x.function(p.Sigs[p.Funcs[f].Sig].Result)
	}
	return p
}

// oracle rolls numbers from without, few of them zeros.
func oracle(d *dice) []int64 {
	l := make([]int64, d.roll(60))
	for k := range l {
		l[k] = int64(d.roll(4) - 1)
	}
	return l
}

func TestRolled(t *testing.T) {
	d := dice(15)
	whys, kinds, ops, again := map[int]int{}, map[int]int{}, map[int]int{}, 0
	for k := range 2000 {
		fuel := []int{3000, 3000, 600, 5000, d.roll(200), d.roll(3200)}[k%6]
		x := hold(t, program(&d), oracle(&d), fuel)
		whys[x.why]++
		told := 0
		for _, e := range x.events {
			kinds[e.Kind]++
			if e.Kind == 1 || e.Kind == 2 {
				told++
			}
		}
		for op, n := range x.ops {
			ops[op] += n
		}
		if len(x.calls)+len(x.alarms) < told {
			again++
		}
	}
	for _, why := range []int{api.ANil, api.AFreed, api.AEnd, api.AFuel, api.ADeep} {
		if whys[why] < 50 {
			t.Errorf("the test is weak: %v runs by their ends", whys)
		}
	}
	for kind := 1; kind <= 4; kind++ {
		if kinds[kind] < 1000 || again < 100 {
			t.Errorf("the test is weak: %v events by their kinds, %d runs with some again", kinds, again)
		}
	}
	for op := api.OConst; op <= api.OSink; op++ {
		if ops[op] < 1000 {
			t.Errorf("the test is weak: %v steps by their kinds", ops)
		}
	}
}

// One program, with each fuel from none to more than there are steps.
func TestRolledFuel(t *testing.T) {
	d := dice(51)
	for range 50 {
		p, l := program(&d), oracle(&d)
		steps := expect(p, l, 80).steps
		for fuel := -1; fuel < steps+3; fuel++ {
			hold(t, p, l, fuel)
		}
	}
}
