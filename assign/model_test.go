package assign_test

import (
	"fmt"
	"slices"
	"strings"
	"testing"

	"haruspex/api"
	"haruspex/assign"
	"haruspex/types"
)

type dice uint64

func (d *dice) roll(n int) int {
	*d = *d*6364136223846793005 + 1442695040888963407
	return int(uint64(*d)>>33) % n
}

// The model runs a function on all its ways at once: a state is a block and, as bits, the registers that are assigned
// where it begins. Registers are below 60 here.
type state struct {
	b    int
	have uint64
}

// letters tells of each Op what is read, * is Args, and whether Dst is assigned.
func letters(op int) string {
	if op < 1 || op > 15 {
		return ""
	}
	return strings.Fields("const: =, add: =AB, source: =, nil: =, alloc: =, copy: =A, load: =A, store: AB, free: A, fun: =, make: =A, call: =*, callr: =A*, calli: =A*, sink: A,")[2*op-1]
}

// regsRead gives the registers that an instruction reads.
func regsRead(i api.Instr) []int {
	var l []int
	for _, letter := range letters(i.Op) {
		switch letter {
		case 'A':
			l = append(l, i.A)
		case 'B':
			l = append(l, i.B)
		case '*':
			l = append(l, i.Args...)
		}
	}
	return l
}

// run goes through a block from a state; it gives the registers that are assigned at its end and the first place at
// which one is read that is not.
func run(b api.Block, have uint64) (uint64, int) {
	bad := -1
	for k, i := range b.Code {
		for _, r := range regsRead(i) {
			if have>>r&1 == 0 && bad < 0 {
				bad = k
			}
		}
		if strings.HasPrefix(letters(i.Op), "=") {
			have |= 1 << i.Dst
		}
	}
	if b.End != api.EJump && have>>b.Reg&1 == 0 && bad < 0 {
		bad = len(b.Code)
	}
	return have, bad
}

// answer is what the model tells of a function.
type answer struct {
	in    string // In
	shape string // the first block that is not reached, as a point; "": none
	check string // the first point at which a register is read that is not assigned; "": none
}

func model(p *api.Program, f int) answer {
	fn := p.Funcs[f]
	all := uint64(1)<<len(fn.Regs) - 1
	have := uint64(1)<<len(p.Sigs[fn.Sig].Params) - 1
	begin := state{0, have & all}
	seen, line := map[state]struct{}{begin: {}}, []state{begin}
	in := slices.Repeat([]uint64{all}, len(fn.Blocks))
	met := make([]bool, len(fn.Blocks))
	bad := slices.Repeat([]int{-1}, len(fn.Blocks))
	for len(line) > 0 {
		s := line[len(line)-1]
		line = line[:len(line)-1]
		in[s.b] &= s.have
		met[s.b] = true
		block := fn.Blocks[s.b]
		end, at := run(block, s.have)
		if at >= 0 && (bad[s.b] < 0 || at < bad[s.b]) {
			bad[s.b] = at
		}
		for _, to := range [][]int{{}, {block.To}, {block.To, block.Else}, {}}[block.End] {
			next := state{to, end}
			if _, ok := seen[next]; !ok {
				seen[next] = struct{}{}
				line = append(line, next)
			}
		}
	}
	return tell(f, len(fn.Regs), in, met, bad)
}

func tell(f, regs int, in []uint64, met []bool, bad []int) answer {
	var a answer
	lists := [][]int{}
	for b := range in {
		l := []int{}
		for r := range regs {
			if in[b]>>r&1 == 1 {
				l = append(l, r)
			}
		}
		lists = append(lists, l)
		if !met[b] && a.shape == "" {
			a.shape = fmt.Sprintf("shape %d.%d.0", f, b)
		}
		if bad[b] >= 0 && a.check == "" {
			a.check = fmt.Sprintf("assign %d.%d.%d", f, b, bad[b])
		}
	}
	a.in = fmt.Sprint(lists)
	return a
}

// holdModel asks of a program whose names are right what the model tells.
func holdModel(t *testing.T, p *api.Program) {
	t.Helper()
	shape, check := "", ""
	for f := range p.Funcs {
		a := model(p, f)
		if shape == "" {
			shape = a.shape
		}
		if check == "" {
			check = a.check
		}
		if got := sets(assign.In(p, f)); got != a.in {
			t.Fatalf("P11.1: In of %d of %+v: %s, want %s", f, *p, got, a.in)
		}
		flow := assign.Flow(p, f)
		for b, block := range p.Funcs[f].Blocks {
			want := [][]int{nil, {block.To}, slices.Compact([]int{block.To, block.Else}), nil}[block.End]
			if flow.N != len(p.Funcs[f].Blocks) || len(flow.To) != flow.N || !slices.Equal(flow.To[b], want) {
				t.Fatalf("P11.1: the flow of %d of %+v: %v", f, *p, flow)
			}
		}
	}
	if got := told(assign.Shape(p)); got != shape {
		t.Fatalf("P11.1: Shape of %+v: %q, want %q", *p, got, shape)
	}
	if got := told(assign.Check(p)); got != check {
		t.Fatalf("P11.1: Check of %+v: %q, want %q", *p, got, check)
	}
}

// ends gives all ends of blocks of n.
func ends(n int) []api.Block {
	l := []api.Block{{End: api.EReturn, Reg: 1}}
	for to := range n {
		l = append(l, api.Block{End: api.EJump, To: to})
		for other := range n {
			l = append(l, api.Block{End: api.EBranch, To: to, Else: other})
		}
	}
	return l
}

// All functions of up to 3 blocks, each of which may assign and may read the register 1.
func TestAllSmallFunctions(t *testing.T) {
	codes := [][]api.Instr{nil, set(1), read(1), append(read(1), set(1)...), append(set(1), read(1)...)}
	for n := 1; n <= 3; n++ {
		l := ends(n)
		kinds := len(l) * len(codes)
		all := 1
		for range n {
			all *= kinds
		}
		for k := range all {
			fn := function(1, 2, make([]api.Block, n)...)
			for b := range n {
				fn.Blocks[b] = l[k%kinds/len(codes)]
				fn.Blocks[b].Code = codes[k%len(codes)]
				k /= kinds
			}
			holdModel(t, program(fn))
		}
	}
}

// rolled gives a function whose names are right, of registers that are all numbers; wide: of up to 12 blocks.
func rolled(d *dice, wide bool) api.Func {
	regs, n := 1+d.roll(6), 1+d.roll(5)
	if wide {
		regs, n = 1+d.roll(10), 1+d.roll(api.MaxBlocks)
	}
	fn := function(d.roll(5), regs, make([]api.Block, n)...)
	for b := range n {
		x := &fn.Blocks[b]
		for range d.roll(4) {
			x.Code = append(x.Code, rolledInstr(d, regs))
		}
		x.End = 1 + d.roll(3)
		if d.roll(2) == 0 {
			x.End = api.EBranch
		}
		if x.End != api.EJump {
			x.Reg = d.roll(regs)
		}
		if x.End != api.EReturn {
			x.To = d.roll(n)
		}
		if x.End == api.EBranch {
			x.Else = d.roll(n)
		}
	}
	return fn
}

// rolledInstr gives one of any kind; what does not count is 0.
func rolledInstr(d *dice, regs int) api.Instr {
	i := api.Instr{Op: 1 + d.roll(15)}
	for _, letter := range letters(i.Op) {
		switch letter {
		case '=':
			i.Dst = d.roll(regs)
		case 'A':
			i.A = d.roll(regs)
		case 'B':
			i.B = d.roll(regs)
		case '*':
			for range d.roll(api.MaxParams + 1) {
				i.Args = append(i.Args, d.roll(regs))
			}
		}
	}
	return i
}

func TestRolled(t *testing.T) {
	d := dice(11)
	refused := make(map[string]int)
	for k := range 20000 {
		var l []api.Func
		for range 1 + d.roll(3) {
			l = append(l, rolled(&d, k%8 == 0))
		}
		p := program(l...)
		if e := types.Names(p); e != nil {
			t.Fatalf("the rolled program is wrong: %v", e)
		}
		holdModel(t, p)
		refused[fmt.Sprint(assign.Shape(p) != nil, assign.Check(p) != nil)]++
	}
	if len(refused) != 4 {
		t.Errorf("of the rolled programs some kinds are missing: %v", refused)
	}
}

// tidy gives p with all registers that it reads assigned somewhere ahead, as far as the dice fall: so that faults are few
// and far behind.
func tidy(d *dice, p *api.Program) {
	for f := range p.Funcs {
		fn := &p.Funcs[f]
		var code []api.Instr
		for r := range fn.Regs {
			if d.roll(8) > 0 {
				code = append(code, set(r)...)
			}
		}
		fn.Blocks[0].Code = append(code, fn.Blocks[0].Code...)
	}
}

func TestRolledTidy(t *testing.T) {
	d := dice(12)
	right := 0
	for k := range 10000 {
		p := program(rolled(&d, k%8 == 0), rolled(&d, false), rolled(&d, false))
		tidy(&d, p)
		holdModel(t, p)
		if assign.Check(p) == nil {
			right++
		}
	}
	if right < 500 || right > 9500 {
		t.Errorf("of the rolled programs %d are right", right)
	}
}
