package ir_test

import (
	"fmt"
	"slices"
	"testing"

	"haruspex/api"
	"haruspex/ir"
)

// roomy gives a program whose lists have spare room, full of marks.
func roomy() *api.Program {
	args := []int{1, 2, -7, -7}
	mark := api.Instr{Op: -7, Args: []int{-7}}
	calls := []api.Instr{{Op: api.OCall, Dst: 3, Args: args[:2]}, {Op: api.OCallR, A: 4, Args: args[:1]}, {Op: api.OCallI, A: 5, Args: args[:0]}, mark, mark}
	blocks := []api.Block{{Code: calls[:3], End: api.EBranch, To: 1}, {Code: calls[:0], End: api.EJump}, {Code: calls, End: -7}}
	funcs := []api.Func{{Blocks: blocks[:2]}, {Blocks: blocks[:1]}, {Blocks: blocks}}
	return &api.Program{Funcs: funcs[:2]}
}

// whole tells all of p, its lists' spare room too.
func whole(p *api.Program) string {
	told := fmt.Sprint(*p)
	for _, f := range p.Funcs[:cap(p.Funcs)] {
		told += fmt.Sprint(f)
		for _, b := range f.Blocks[:cap(f.Blocks)] {
			told += fmt.Sprint(b)
			for _, i := range b.Code[:cap(b.Code)] {
				told += fmt.Sprint(i, i.Args[:cap(i.Args)])
			}
		}
	}
	return told
}

// askAll asks each function and tells all answers as one text.
func askAll(p *api.Program) string {
	told := fmt.Sprint(ir.Points(p)) + ir.Print(p)
	for n := range 10 {
		i, ok := ir.At(p, n)
		r, is := ir.Def(i)
		told += fmt.Sprint(i, ok, r, is, ir.Uses(i), ir.Line(i), ir.Next(p, n), ir.Number(p, api.Point{I: n}))
	}
	for _, i := range p.Funcs[0].Blocks[0].Code {
		told += fmt.Sprint(ir.Uses(i), ir.Line(i))
	}
	return told
}

func TestWhatIsHandedInStays(t *testing.T) {
	p := roomy()
	was := whole(p)
	told := askAll(p)
	if got := whole(p); got != was {
		t.Errorf("P0.3: the program became %s, it was %s", got, was)
	}
	if again := askAll(p); again != told {
		t.Errorf("P0.5: asked again: %s, first %s", again, told)
	}
}

// The same program object, changed between two calls: nothing of it is kept.
func TestNothingIsKept(t *testing.T) {
	p := roomy()
	askAll(p)
	p.Funcs = []api.Func{{}, {Blocks: []api.Block{{End: api.EReturn, Reg: 3}}}}
	if got := fmt.Sprint(ir.Points(p), ir.Number(p, api.Point{}), ir.Number(p, api.Point{F: 1}), ir.Next(p, 0), ir.Print(p)); got != "[{1 0 0}] -1 0 []func 0\nfunc 1\n  block 0\n    return r3\n" {
		t.Errorf("P0.5: of the changed program: %s", got)
	}
}

func TestInstructionsAreNewMemory(t *testing.T) {
	p := roomy()
	was := whole(p)
	for n := range 3 {
		one, _ := ir.At(p, n)
		other, _ := ir.At(p, n)
		told := fmt.Sprint(other)
		scrawl(one.Args)
		if whole(p) != was || fmt.Sprint(other) != told {
			t.Errorf("P0.3: who writes into what At %d answers changes %v, %s", n, other, whole(p))
		}
	}
}

// scrawl writes into all of l, and into its spare room.
func scrawl(l []int) {
	l = l[:cap(l)]
	for k := range l {
		l[k] = 4321
	}
	_ = append(l, 4321)
}

func TestListsAreNewMemory(t *testing.T) {
	p := roomy()
	was := whole(p)
	for name, ask := range map[string]func() []int{
		"Uses of a call":                     func() []int { return ir.Uses(p.Funcs[0].Blocks[0].Code[0]) },
		"Uses of a call by a register":       func() []int { return ir.Uses(p.Funcs[0].Blocks[0].Code[1]) },
		"Uses of a call of a method":         func() []int { return ir.Uses(p.Funcs[0].Blocks[0].Code[2]) },
		"Uses of a call without arguments":   func() []int { return ir.Uses(api.Instr{Op: api.OCall, Args: p.Funcs[0].Blocks[0].Code[2].Args}) },
		"Uses of an add":                     func() []int { return ir.Uses(api.Instr{Op: api.OAdd}) },
		"Next of an instruction":             func() []int { return ir.Next(p, 0) },
		"Next of a branch":                   func() []int { return ir.Next(p, 3) },
		"Next of a jump":                     func() []int { return ir.Next(p, 4) },
		"Next of a branch with no way there": func() []int { return ir.Next(p, 8) },
	} {
		one, other := ask(), ask()
		told := slices.Clone(other)
		scrawl(one)
		if whole(p) != was || !slices.Equal(other, told) || !slices.Equal(ask(), told) {
			t.Errorf("P0.3: who writes into what %s answers changes %v, %s", name, other, whole(p))
		}
	}
}

func TestPointsAreNewMemory(t *testing.T) {
	p := roomy()
	was, told := whole(p), fmt.Sprint(ir.Points(p))
	one, other := ir.Points(p), ir.Points(p)
	clear(one[:cap(one)])
	if whole(p) != was || fmt.Sprint(other) != told || fmt.Sprint(ir.Points(p)) != told {
		t.Errorf("P0.3: who writes into what Points answers changes %v, %s", other, whole(p))
	}
}
