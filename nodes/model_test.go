package nodes_test

import (
	"math"
	"slices"
	"testing"

	"haruspex/api"
	"haruspex/ir"
	"haruspex/nodes"
	"haruspex/types"
)

// object is what a set may hold.
type object struct {
	x    int
	site bool
}

// model is the promise word by word, to hold Tables against: it counts all there is, one by one, into maps, and knows
// nothing of ir.
type model struct {
	regs    map[[2]int]int
	rets    map[int]int
	cells   map[api.Cell]int
	recs    map[int]int
	funs    map[int]int
	sites   []int
	objects []object
	nodes   int
	points  int
	bare    int   // functions without registers
	fields  []int // of each record
}

// next counts a node.
func (x *model) next() int {
	x.nodes++
	return x.nodes - 1
}

func expect(p *api.Program) *model {
	x := &model{regs: map[[2]int]int{}, rets: map[int]int{}, cells: map[api.Cell]int{}, recs: map[int]int{}, funs: map[int]int{}}
	for f, fn := range p.Funcs {
		for r := range fn.Regs {
			x.regs[[2]int{f, r}] = x.next()
		}
		x.rets[f] = x.next()
		if len(fn.Regs) == 0 {
			x.bare++
		}
	}
	for _, rec := range p.Records {
		x.fields = append(x.fields, len(rec))
	}
	for _, fn := range p.Funcs {
		for _, b := range fn.Blocks {
			for _, i := range b.Code {
				if i.Op == api.OAlloc {
					x.alloc(p, fn.Regs[i.Dst].N)
				}
				x.points++
			}
			x.points++
		}
	}
	for f := range p.Funcs {
		x.funs[f] = len(x.objects)
		x.objects = append(x.objects, object{f, false})
	}
	return x
}

// alloc counts the site at the point that is next.
func (x *model) alloc(p *api.Program, rec int) {
	for field := range p.Records[rec] {
		x.cells[api.Cell{Site: x.points, Field: field}] = x.next()
	}
	x.recs[x.points] = rec
	x.sites = append(x.sites, x.points)
	x.objects = append(x.objects, object{x.points, true})
}

// around gives the numbers below n, some that are none, and far ones.
func around(n int) []int {
	l := []int{math.MinInt, math.MinInt + 1, -1 << 32, -2, -1, n, n + 1, n + 2, 1 << 31, 1 << 32, 1<<32 + 1, math.MaxInt - 1, math.MaxInt}
	for k := range n {
		l = append(l, k)
	}
	return l
}

// at gives what m has at k, or -1.
func at[K comparable](m map[K]int, k K) int {
	if n, ok := m[k]; ok {
		return n
	}
	return -1
}

// hold holds all that the Table of p tells against the model, and gives the model.
func hold(t *testing.T, p *api.Program) *model {
	t.Helper()
	may(t, p)
	x, n := expect(p), nodes.New(p)
	if got := n.Sites(); n.Len() != x.nodes || !slices.Equal(got, x.sites) {
		t.Fatalf("P16.1: %d nodes, sites %v, want %d, %v of\n%s", n.Len(), got, x.nodes, x.sites, ir.Print(p))
	}
	for _, f := range around(len(p.Funcs)) {
		if n.Ret(f) != at(x.rets, f) || n.Fun(f) != at(x.funs, f) {
			t.Fatalf("P16.1: %d: Ret %d, Fun %d, want %d, %d of\n%s", f, n.Ret(f), n.Fun(f), at(x.rets, f), at(x.funs, f), ir.Print(p))
		}
		for _, r := range around(api.MaxRegs + 1) {
			if got, want := n.Reg(f, r), at(x.regs, [2]int{f, r}); got != want {
				t.Fatalf("P16.1: %d: register %d: %d, want %d of\n%s", f, r, got, want, ir.Print(p))
			}
		}
	}
	for _, site := range around(x.points) {
		if got, want := n.Rec(site), at(x.recs, site); got != want {
			t.Fatalf("P16.1: Rec(%d): %d, want %d of\n%s", site, got, want, ir.Print(p))
		}
		for _, field := range around(api.MaxFields + 1) {
			c := api.Cell{Site: site, Field: field}
			if got, want := n.Cell(c), at(x.cells, c); got != want {
				t.Fatalf("P16.1: %v: %d, want %d of\n%s", c, got, want, ir.Print(p))
			}
		}
	}
	x.holdObjects(t, n)
	return x
}

func (x *model) holdObjects(t *testing.T, n *nodes.Table) {
	t.Helper()
	for _, o := range around(len(x.objects)) {
		want := object{-1, false}
		if o >= 0 && o < len(x.objects) {
			want = x.objects[o]
		}
		if got, site := n.Object(o); got != want.x || site != want.site {
			t.Fatalf("P16.1: object %d: %d, %v, want %v", o, got, site, want)
		}
	}
}

// dice gives the same numbers at each run.
type dice uint64

func (d *dice) roll(n int) int {
	*d = *d*6364136223846793005 + 1442695040888963407
	return int(uint64(*d)>>33) % n
}

// rolled rolls an instruction that reads nothing and defines one of these registers.
func rolled(d *dice, regs []api.Type) api.Instr {
	r := d.roll(len(regs))
	ops := []int{api.OConst, api.OSource}
	switch regs[r].Kind {
	case api.TPtr:
		ops = []int{api.OAlloc, api.OAlloc, api.ONil}
	case api.TFun:
		ops = []int{api.ONil, api.OFun}
	}
	return api.Instr{Op: ops[d.roll(len(ops))], Dst: r}
}

// some rolls a type of a program with so many records.
func some(d *dice, records int) api.Type {
	switch n := d.roll(records + 2); n {
	case records:
		return num
	case records + 1:
		return fun0
	default:
		return api.Type{Kind: api.TPtr, N: n}
	}
}

// blocks rolls blocks that go one into the next; of a function without registers they have no code.
func blocks(d *dice, regs []api.Type) []api.Block {
	l := make([]api.Block, 1+d.roll(4))
	for k := range l {
		l[k].End, l[k].To = api.EJump, min(k+1, len(l)-1)
		for range d.roll(min(8, 8*len(regs)+1)) {
			l[k].Code = append(l[k].Code, rolled(d, regs))
		}
	}
	last := &l[len(l)-1]
	if r := slices.Index(regs, num); r >= 0 && d.roll(2) == 0 {
		last.Code = append(last.Code, api.Instr{Op: api.OSource, Dst: r})
		last.End, last.Reg, last.To = api.EReturn, r, 0
	}
	return l
}

// program rolls a program that may be, with at most so many functions.
func program(d *dice, funcs int) *api.Program {
	for {
		p := &api.Program{Sigs: []api.Sig{{}}, Records: make([][]api.Type, 1+d.roll(api.MaxRecs))}
		for k := range p.Records {
			for range d.roll(api.MaxFields + 1) {
				p.Records[k] = append(p.Records[k], some(d, len(p.Records)))
			}
		}
		for range 1 + d.roll(funcs) {
			fn := api.Func{}
			for range max(d.roll(api.MaxRegs+3)-2, 0) {
				fn.Regs = append(fn.Regs, some(d, len(p.Records)))
			}
			fn.Blocks = blocks(d, fn.Regs)
			p.Funcs = append(p.Funcs, fn)
		}
		p.Main = d.roll(len(p.Funcs))
		if types.Bounds(p) == nil {
			return p
		}
	}
}

func TestRolled(t *testing.T) {
	d := dice(16)
	few, many, bare, empty, full := 0, 0, 0, 0, 0
	for k := range 1500 {
		x := hold(t, program(&d, []int{2, 6, api.MaxFuncs}[k%3]))
		if len(x.sites) == 0 {
			few++
		}
		if len(x.sites) > 20 {
			many++
		}
		bare += x.bare
		for _, rec := range x.recs {
			switch x.fields[rec] {
			case 0:
				empty++
			case api.MaxFields:
				full++
			}
		}
	}
	if few < 50 || many < 50 || bare < 200 || empty < 500 || full < 500 {
		t.Errorf("the test is weak: %d, %d, %d, %d, %d", few, many, bare, empty, full)
	}
}
