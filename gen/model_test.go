package gen_test

import (
	"fmt"
	"slices"
	"testing"

	"haruspex/api"
	"haruspex/gen"
	"haruspex/ir"
	"haruspex/types"
)

// point is a point of the model: an instruction or an end of the function f.
type point struct {
	f     int
	i     api.Instr
	block api.Block
	end   bool
}

// model is the promise word by word, to hold rules against: it counts all nodes, objects and points one by one, and
// knows nothing of nodes and ir.
type model struct {
	p       *api.Program
	points  []point
	regs    map[[2]int]int
	rets    map[int]int
	objects map[int]int // of each point that is a site
	sites   int
}

func expect(p *api.Program) *model {
	x := &model{p: p, regs: map[[2]int]int{}, rets: map[int]int{}, objects: map[int]int{}}
	n := 0
	for f, fn := range p.Funcs {
		for r := range fn.Regs {
			x.regs[[2]int{f, r}] = n
			n++
		}
		x.rets[f] = n
		n++
		for _, b := range fn.Blocks {
			for _, i := range b.Code {
				if i.Op == api.OAlloc {
					x.objects[len(x.points)] = x.sites
					x.sites++
				}
				x.points = append(x.points, point{f: f, i: i})
			}
			x.points = append(x.points, point{f: f, block: b, end: true})
		}
	}
	return x
}

// of gives the rules of f as texts.
func (x *model) of(f int) []string {
	l := []string{}
	for at, q := range x.points {
		if q.f != f {
			continue
		}
		i, reg := q.i, func(r int) int { return x.regs[[2]int{f, r}] }
		// What moves, where ints are left out.
		moves := func(r int) bool { return x.p.Funcs[f].Regs[r] != num }
		args := []int{}
		for _, r := range i.Args {
			args = append(args, reg(r))
		}
		switch {
		case q.end && q.block.End == api.EReturn && moves(q.block.Reg):
			l = append(l, fmt.Sprint("{2 ", reg(q.block.Reg), " ", x.rets[f], " 0 [] 0 0}"))
		case i.Op == api.OAlloc:
			l = append(l, fmt.Sprint("{1 ", x.objects[at], " ", reg(i.Dst), " 0 [] 0 0}"))
		case i.Op == api.OFun:
			l = append(l, fmt.Sprint("{1 ", x.sites+i.N, " ", reg(i.Dst), " 0 [] 0 0}"))
		case (i.Op == api.OCopy || i.Op == api.OMake) && moves(i.Dst):
			l = append(l, fmt.Sprint("{2 ", reg(i.A), " ", reg(i.Dst), " 0 [] 0 0}"))
		case i.Op == api.OLoad && moves(i.Dst):
			l = append(l, fmt.Sprint("{3 ", reg(i.A), " ", reg(i.Dst), " ", i.N, " [] 0 0}"))
		case i.Op == api.OStore && moves(i.B):
			l = append(l, fmt.Sprint("{4 ", reg(i.B), " ", reg(i.A), " ", i.N, " [] 0 0}"))
		case i.Op == api.OCall:
			l = append(l, x.call(at, i.N)...)
		case i.Op == api.OCallR:
			l = append(l, fmt.Sprint("{5 ", reg(i.A), " 0 0 ", args, " ", reg(i.Dst), " ", at, "}"))
		case i.Op == api.OCallI:
			l = append(l, fmt.Sprint("{6 ", reg(i.A), " 0 ", i.N, " ", args, " ", reg(i.Dst), " ", at, "}"))
		}
	}
	return l
}

// call gives the rules of a call of g as texts.
func (x *model) call(at, g int) []string {
	l := []string{}
	if at < 0 || at >= len(x.points) || g < 0 || g >= len(x.p.Funcs) || x.points[at].end {
		return l
	}
	i, f := x.points[at].i, x.points[at].f
	shift, is := map[int]int{api.OCall: 0, api.OCallR: 0, api.OCallI: 1}[i.Op]
	if !is {
		return l
	}
	sig := x.p.Sigs[x.p.Funcs[g].Sig]
	for k := range sig.Params {
		if k >= shift && k-shift < len(i.Args) {
			if r := i.Args[k-shift]; x.p.Funcs[f].Regs[r] != num {
				l = append(l, fmt.Sprint("{2 ", x.regs[[2]int{f, r}], " ", x.regs[[2]int{g, k}], " 0 [] 0 0}"))
			}
		}
	}
	if sig.Result != num {
		l = append(l, fmt.Sprint("{2 ", x.rets[g], " ", x.regs[[2]int{f, i.Dst}], " 0 [] 0 0}"))
	}
	return l
}

// callees gives the functions that the call at may call, by their types alone.
func (x *model) callees(at int) []int {
	var l []int
	q := x.points[at]
	regs := x.p.Funcs[q.f].Regs
	for g, fn := range x.p.Funcs {
		switch q.i.Op {
		case api.OCall:
			if g == q.i.N {
				l = append(l, g)
			}
		case api.OCallR:
			if fn.Sig == regs[q.i.A].N {
				l = append(l, g)
			}
		case api.OCallI:
			if slices.ContainsFunc(x.p.Impls, func(y api.Impl) bool { return y.Iface == regs[q.i.A].N && y.Funcs[q.i.N] == g }) {
				l = append(l, g)
			}
		}
	}
	return l
}

// hold holds all rules of p's functions, and those of its calls of what may be called there, against the model, and
// gives the model.
func hold(t *testing.T, p *api.Program) *model {
	t.Helper()
	may(t, p)
	x := expect(p)
	for f := range p.Funcs {
		if got, want := fmt.Sprint(gen.Of(p, f)), fmt.Sprint(x.of(f)); got != want {
			t.Fatalf("P17.1: %d: %s, want %s of\n%s", f, got, want, ir.Print(p))
		}
	}
	for at := range x.points {
		for _, g := range x.callees(at) {
			x.holdCall(t, at, g)
		}
	}
	return x
}

func (x *model) holdCall(t *testing.T, at, g int) {
	t.Helper()
	if got, want := fmt.Sprint(gen.Call(x.p, at, g)), fmt.Sprint(x.call(at, g)); got != want {
		t.Fatalf("P17.1: %d: Call of %d: %s, want %s of\n%s", at, g, got, want, ir.Print(x.p))
	}
}

// dice gives the same numbers at each run.
type dice uint64

func (d *dice) roll(n int) int {
	*d = *d*6364136223846793005 + 1442695040888963407
	return int(uint64(*d)>>33) % n
}

// maker rolls a function of a program: kinds of instructions by their weights.
type maker struct {
	d       *dice
	p       *api.Program
	f       int
	weights []int
	has     []int // the registers that have a value
}

// of gives a register of this type; false: none of them has a value.
func (x *maker) of(t api.Type) (int, bool) {
	var l []int
	for _, r := range x.has {
		if x.p.Funcs[x.f].Regs[r] == t {
			l = append(l, r)
		}
	}
	if len(l) == 0 {
		return 0, false
	}
	return l[x.d.roll(len(l))], true
}

// rolled gives an instruction that fits and reads only what has a value.
func (x *maker) rolled(ops ...int) api.Instr {
	regs := x.p.Funcs[x.f].Regs
	one := func() int { return x.has[x.d.roll(len(x.has))] }
	for {
		i := api.Instr{Op: ops[x.d.roll(len(ops))]}
		if len(x.has) == 0 && !slices.Contains([]int{api.OConst, api.OSource, api.ONil, api.OAlloc, api.OFun}, i.Op) {
			continue
		}
		if i.Op != api.OStore && i.Op != api.OFree && i.Op != api.OSink {
			i.Dst = x.d.roll(len(regs))
		}
		switch i.Op {
		case api.OConst:
			i.N = x.d.roll(5) - 2
		case api.OAdd:
			i.A, i.B = one(), one()
		case api.OCopy, api.OMake, api.OFree, api.OSink:
			i.A = one()
		case api.OLoad:
			i.A, i.N = one(), x.d.roll(4)
		case api.OStore:
			i.A, i.B, i.N = one(), one(), x.d.roll(4)
		case api.OFun, api.OCall:
			i.N = x.d.roll(len(x.p.Funcs))
		case api.OCallR:
			i.A = one()
		case api.OCallI:
			i.A, i.N = one(), x.d.roll(2)
		}
		if x.args(&i) && types.Fits(x.p, x.f, i) {
			return i
		}
	}
}

// args puts arguments to a call; false: there are none for it.
func (x *maker) args(i *api.Instr) bool {
	p, sig := x.p, 0
	t := p.Funcs[x.f].Regs[i.A]
	switch {
	case i.Op == api.OCall:
		sig = p.Funcs[i.N].Sig
	case i.Op == api.OCallR && t.Kind == api.TFun:
		sig = t.N
	case i.Op == api.OCallI && t.Kind == api.TIface && i.N < len(p.Ifaces[t.N].Sigs):
		sig = p.Ifaces[t.N].Sigs[i.N]
	default:
		return i.Op != api.OCallR && i.Op != api.OCallI
	}
	for _, t := range p.Sigs[sig].Params {
		r, ok := x.of(t)
		if !ok {
			return false
		}
		i.Args = append(i.Args, r)
	}
	return true
}

// add puts i behind b's code.
func (x *maker) add(b *api.Block, i api.Instr) {
	b.Code = append(b.Code, i)
	if r, ok := ir.Def(i); ok && !slices.Contains(x.has, r) {
		x.has = append(x.has, r)
	}
}

// begin gives most registers a value, and one of those that may be returned for sure.
func (x *maker) begin(b *api.Block, result api.Type) {
	fn := x.p.Funcs[x.f]
	for r := range fn.Regs {
		if slices.Contains(x.has, r) || x.d.roll(8) == 0 {
			continue
		}
		ops := []int{api.ONil}
		switch fn.Regs[r].Kind {
		case api.TInt:
			ops = []int{api.OConst, api.OSource, api.OSource}
		case api.TPtr:
			ops = []int{api.OAlloc, api.OAlloc, api.OAlloc, api.OAlloc, api.ONil}
		case api.TFun:
			ops = []int{api.OFun, api.OFun, api.OFun, api.OFun, api.ONil}
		case api.TIface:
			if _, ok := x.of(ptr0); ok {
				ops = []int{api.OMake, api.OMake, api.OMake, api.OMake, api.ONil}
			}
		}
		x.add(b, x.into(r, ops))
	}
	for _, t := range []api.Type{num, result} {
		if _, ok := x.of(t); !ok {
			r := slices.Index(fn.Regs, t)
			op := api.ONil
			if t == num {
				op = api.OSource
			}
			x.add(b, api.Instr{Op: op, Dst: r})
		}
	}
}

// into rolls an instruction that defines r.
func (x *maker) into(r int, ops []int) api.Instr {
	for {
		if i := x.rolled(ops...); i.Dst == r {
			return i
		}
	}
}

// function rolls the blocks of the function f.
func (x *maker) function(result api.Type) []api.Block {
	blocks := make([]api.Block, 1+x.d.roll(4))
	x.begin(&blocks[0], result)
	first := slices.Clone(x.has)
	for k := range blocks {
		b := &blocks[k]
		if k > 0 {
			x.has = slices.Clone(first)
		}
		for n := x.d.roll(6); n > 0; n-- {
			x.add(b, x.rolled(x.weights...))
		}
		next := min(k+1, len(blocks)-1)
		switch b.Reg, _ = x.of(num); {
		case k == len(blocks)-1 && x.d.roll(10) > 0:
			b.End = api.EReturn
			b.Reg, _ = x.of(result)
		case x.d.roll(3) == 0:
			b.End, b.Reg, b.To = api.EJump, 0, next
		case x.d.roll(2) == 0:
			b.End, b.To, b.Else = api.EBranch, next, x.d.roll(len(blocks))
		default:
			b.End, b.To, b.Else = api.EBranch, x.d.roll(len(blocks)), next
		}
	}
	return blocks
}

// program rolls a program that may be.
func program(d *dice) *api.Program {
	for {
		if p := some(d); types.Bounds(p) == nil {
			return p
		}
	}
}

// some rolls a program that may be, unless it is beyond a limit.
func some(d *dice) *api.Program {
	p := base(nil)
	p.Funcs, p.Main = nil, theMain+d.roll(2)
	for _, sig := range []int{1, 2, 3, 4, 5, 7, 8, 9, 0, 0, 1 + d.roll(9)} {
		fn := api.Func{Sig: sig, Regs: append(slices.Clone(p.Sigs[sig].Params), p.Sigs[sig].Result, num, ptr0)}
		for range 3 + d.roll(8) {
			fn.Regs = append(fn.Regs, []api.Type{num, ptr0, ptr1, iface0, iface1, iface2, fun1, fun3, fun0}[d.roll(9)])
		}
		p.Funcs = append(p.Funcs, fn)
	}
	weights := slices.Repeat([]int{1, 2, 3, 5, 6, 7, 7, 8, 8, 10, 11, 12, 13, 13, 14, 14, 14, 15}, 2)
	weights = append(weights, 4, 9)
	for range d.roll(3) {
		weights = append(weights, []int{4, 5, 9, 12, 14, 7}[d.roll(6)])
	}
	for f := range p.Funcs {
		x := &maker{d: d, p: p, f: f, weights: weights}
		for r := range p.Sigs[p.Funcs[f].Sig].Params {
			x.has = append(x.has, r)
		}
		p.Funcs[f].Blocks = x.function(p.Sigs[p.Funcs[f].Sig].Result)
	}
	return p
}

func TestRolled(t *testing.T) {
	d := dice(17)
	kinds, calls, ints := map[byte]int{}, map[int]int{}, 0
	for range 400 {
		x := hold(t, program(&d))
		for f := range x.p.Funcs {
			for _, rule := range x.of(f) {
				kinds[rule[1]]++
			}
		}
		for at, q := range x.points {
			calls[len(x.callees(at))]++
			if q.i.Op == api.OCall && len(x.call(at, q.i.N)) < len(q.i.Args)+1 {
				ints++
			}
		}
	}
	for kind := byte('1'); kind <= '6'; kind++ {
		if kinds[kind] < 400 {
			t.Errorf("the test is weak: %v rules by their kinds", kinds)
		}
	}
	if calls[1] < 500 || calls[2] < 500 || ints < 200 {
		t.Errorf("the test is weak: %v points by how many they may call, %d with ints", calls, ints)
	}
}

// Call at all points, of all functions, and of numbers that are none.
func TestRolledCalls(t *testing.T) {
	d := dice(71)
	for range 6 {
		p := program(&d)
		x := expect(p)
		for _, at := range around(len(x.points)) {
			for _, g := range []int{-1, 0, d.roll(len(p.Funcs)), d.roll(len(p.Funcs)), len(p.Funcs) - 1, len(p.Funcs)} {
				x.holdCall(t, at, g)
			}
		}
		for _, f := range around(len(p.Funcs)) {
			if got, want := fmt.Sprint(gen.Of(p, f)), fmt.Sprint(x.of(f)); got != want {
				t.Fatalf("P17.1: %d: %s, want %s of\n%s", f, got, want, ir.Print(p))
			}
		}
	}
}
