package ir_test

import (
	"fmt"
	"reflect"
	"slices"
	"strings"
	"testing"

	"haruspex/api"
	"haruspex/ir"
)

// dice gives the same numbers at each run.
type dice uint64

func (d *dice) roll(n int) int {
	*d = *d*6364136223846793005 + 1442695040888963407
	return int(uint64(*d)>>33) % n
}

// instr gives an instruction of any kind, and now and then what is none.
func (d *dice) instr() api.Instr {
	i := api.Instr{Op: d.roll(18) - 1, Dst: d.roll(16), A: d.roll(16), B: d.roll(16), N: d.roll(20) - 4}
	for range d.roll(4) {
		i.Args = append(i.Args, d.roll(16))
	}
	return i
}

// program gives one of few functions, whose ends lead to blocks, and now and then to what is none.
func (d *dice) program() *api.Program {
	p := &api.Program{Funcs: make([]api.Func, d.roll(5))}
	for f := range p.Funcs {
		p.Funcs[f].Blocks = make([]api.Block, d.roll(5))
		for b := range p.Funcs[f].Blocks {
			p.Funcs[f].Blocks[b] = api.Block{End: d.roll(5), Reg: d.roll(16), To: d.roll(6) - 1, Else: d.roll(6) - 1}
			for range d.roll(5) {
				p.Funcs[f].Blocks[b].Code = append(p.Funcs[f].Blocks[b].Code, d.instr())
			}
		}
	}
	return p
}

// spot is a point with all that stands there: an instruction, or a block's end.
type spot struct {
	at    api.Point
	instr *api.Instr
	end   *api.Block
}

// spots lays out all points of p in one list.
func spots(p *api.Program) []spot {
	var l []spot
	for f, fn := range p.Funcs {
		for b, bl := range fn.Blocks {
			for i := range bl.Code {
				l = append(l, spot{at: api.Point{F: f, B: b, I: i}, instr: &bl.Code[i]})
			}
			l = append(l, spot{at: api.Point{F: f, B: b, I: len(bl.Code)}, end: &fn.Blocks[b]})
		}
	}
	return l
}

// find gives the numbers of the spots that are the first ones of the block b of f: one, or none.
func find(l []spot, f, b int) []int {
	n := slices.IndexFunc(l, func(s spot) bool { return s.at == api.Point{F: f, B: b} })
	if n < 0 {
		return nil
	}
	return []int{n}
}

// modelNext looks for the points that the promise's words name in the list of all.
func modelNext(l []spot, n int) []int {
	s := l[n]
	switch {
	case s.end == nil:
		return []int{n + 1}
	case s.end.End == api.EJump:
		return find(l, s.at.F, s.end.To)
	case s.end.End == api.EBranch:
		return slices.Compact(append(find(l, s.at.F, s.end.To), find(l, s.at.F, s.end.Else)...))
	}
	return nil
}

// forms are the lines of instructions, by what they are.
func forms() map[int]string {
	return map[int]string{
		api.OConst: "rD = const N", api.OAdd: "rD = add rA rB", api.OSource: "rD = source", api.ONil: "rD = nil",
		api.OAlloc: "rD = new", api.OCopy: "rD = rA", api.OLoad: "rD = rA.N", api.OStore: "rA.N = rB", api.OFree: "free rA",
		api.OFun: "rD = func N", api.OMake: "rD = iface rA", api.OCall: "rD = call N(*)", api.OCallR: "rD = call rA(*)",
		api.OCallI: "rD = call rA.N(*)", api.OSink: "sink rA",
	}
}

// modelLine fills the form of i.
func modelLine(i api.Instr) string {
	form, ok := forms()[i.Op]
	if !ok {
		return "?"
	}
	args := ""
	for _, r := range i.Args {
		args += fmt.Sprintf(", r%d", r)
	}
	return strings.NewReplacer("D", fmt.Sprint(i.Dst), "A", fmt.Sprint(i.A), "B", fmt.Sprint(i.B), "N", fmt.Sprint(i.N), "*", strings.TrimPrefix(args, ", ")).Replace(form)
}

func modelPrint(p *api.Program) string {
	text := ""
	for f, fn := range p.Funcs {
		text += fmt.Sprintf("func %d\n", f)
		for b, bl := range fn.Blocks {
			text += fmt.Sprintf("  block %d\n", b)
			for _, i := range bl.Code {
				text += "    " + modelLine(i) + "\n"
			}
			ends := map[int]string{api.EJump: fmt.Sprint("jump ", bl.To), api.EBranch: fmt.Sprintf("branch r%d %d %d", bl.Reg, bl.To, bl.Else), api.EReturn: fmt.Sprint("return r", bl.Reg)}
			if end, ok := ends[bl.End]; ok {
				text += "    " + end + "\n"
			} else {
				text += "    ?\n"
			}
		}
	}
	return text
}

func hold(t *testing.T, p *api.Program) {
	t.Helper()
	l, points := spots(p), ir.Points(p)
	if len(points) != len(l) {
		t.Fatalf("P8.1: Points of %v: %v", p.Funcs, points)
	}
	for n, s := range l {
		if points[n] != s.at || ir.Number(p, s.at) != n {
			t.Fatalf("P8.1: %v: the point %d is %v, Number %v is %d", p.Funcs, n, points[n], s.at, ir.Number(p, s.at))
		}
		i, ok := ir.At(p, n)
		if ok != (s.instr != nil) || ok && !reflect.DeepEqual(i, *s.instr) || !ok && !reflect.DeepEqual(i, api.Instr{}) {
			t.Fatalf("P8.1: %v: At %d: %v, %t", p.Funcs, n, i, ok)
		}
		if got, want := ir.Next(p, n), modelNext(l, n); !slices.Equal(got, want) {
			t.Fatalf("P8.1: %v: Next %d: %v, the model %v", p.Funcs, n, got, want)
		}
	}
	for _, n := range []int{-1, len(l)} {
		if i, ok := ir.At(p, n); ok || !reflect.DeepEqual(i, api.Instr{}) || len(ir.Next(p, n)) != 0 {
			t.Fatalf("P8.1: %v: At %d: %v, %t, Next %v", p.Funcs, n, i, ok, ir.Next(p, n))
		}
	}
	holdNumbers(t, p, l)
	if got, want := ir.Print(p), modelPrint(p); got != want {
		t.Fatalf("P8.2: Print: %s, the model %s", got, want)
	}
}

// holdNumbers asks of all places about the program which ones are points.
func holdNumbers(t *testing.T, p *api.Program, l []spot) {
	t.Helper()
	for f := -1; f <= 5; f++ {
		for b := -1; b <= 5; b++ {
			for i := -1; i <= 6; i++ {
				q := api.Point{F: f, B: b, I: i}
				if got, want := ir.Number(p, q), slices.IndexFunc(l, func(s spot) bool { return s.at == q }); got != want {
					t.Fatalf("P8.1: %v: Number %v: %d, the model %d", p.Funcs, q, got, want)
				}
			}
		}
	}
}

// Functions of two blocks, with an instruction or none, by their ends and where these lead, between two others.
func TestAllSmallFunctions(t *testing.T) {
	const ends, tos = 5, 4
	for k := range 2 * 2 * 2 {
		for end := range ends {
			for to := range tos {
				for less := range tos {
					b := api.Block{Code: code(k & 1), End: end, To: to - 1, Else: less - 1}
					c := api.Block{Code: code(k >> 1 & 1), End: (end + to) % ends, To: less - 1, Else: to - 1}
					other := make([]api.Block, k>>2)
					hold(t, of(other, []api.Block{b, c}, other))
				}
			}
		}
	}
}

func TestAgainstModel(t *testing.T) {
	d := dice(8)
	for range 3000 {
		hold(t, d.program())
	}
}

func TestLineAgainstModel(t *testing.T) {
	d := dice(88)
	for range 20000 {
		i := d.instr()
		if got, want := ir.Line(i), modelLine(i); got != want {
			t.Fatalf("P8.2: Line of %v: %q, the model %q", i, got, want)
		}
	}
}
