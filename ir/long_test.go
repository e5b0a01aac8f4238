package ir_test

import (
	"slices"
	"strings"
	"testing"

	"haruspex/api"
	"haruspex/ir"
)

// full gives a program with as many functions, blocks and instructions as the limits name, more points than MaxPoints.
func full() *api.Program {
	blocks := make([]api.Block, api.MaxBlocks)
	for b := range blocks {
		blocks[b] = api.Block{Code: code(api.MaxCode), End: api.EBranch, To: b + 1, Else: b}
	}
	return of(slices.Repeat([][]api.Block{blocks}, api.MaxFuncs)...)
}

func TestAllLimits(t *testing.T) {
	const block = api.MaxCode + 1
	p := full()
	if got := len(ir.Points(p)); got != api.MaxFuncs*api.MaxBlocks*block {
		t.Fatalf("P8.1: %d points", got)
	}
	for n, q := range ir.Points(p) {
		if q.F != n/block/api.MaxBlocks || q.B != n/block%api.MaxBlocks || q.I != n%block || ir.Number(p, q) != n {
			t.Fatalf("P8.1: the point %d is %v, its Number %d", n, q, ir.Number(p, q))
		}
		want := []int{n + 1}
		if q.I == api.MaxCode {
			want = []int{n + 1, n - api.MaxCode}
			if q.B == api.MaxBlocks-1 {
				want = want[1:]
			}
		}
		if got := ir.Next(p, n); !slices.Equal(got, want) {
			t.Fatalf("P8.1: Next %d: %v, want %v", n, got, want)
		}
		if i, ok := ir.At(p, n); ok != (q.I < api.MaxCode) || ok && i.N != q.I {
			t.Fatalf("P8.1: At %d: %v, %t", n, i, ok)
		}
	}
}

func TestLongLists(t *testing.T) {
	const n = 1 << 18
	last := api.Block{End: api.EBranch, Else: n - 1}
	for name, p := range map[string]*api.Program{
		"a long block":   of([]api.Block{{Code: code(n - 1), End: api.EJump}, last}),
		"many blocks":    of(append(make([]api.Block, n-1), last, last)),
		"many functions": of(append(slices.Repeat([][]api.Block{{{}}}, n), []api.Block{last})...),
	} {
		l := ir.Points(p)
		if len(l) != n+1 {
			t.Fatalf("P8.1: %s: %d points", name, len(l))
		}
		if got := ir.Number(p, l[n]); got != n {
			t.Errorf("P8.1: %s: Number of the last point: %d", name, got)
		}
		want := map[string][]int{"a long block": {0}, "many blocks": {0, n - 1}, "many functions": {n}}[name]
		if got := ir.Next(p, n); !slices.Equal(got, want) {
			t.Errorf("P8.1: %s: Next behind the last point: %v", name, got)
		}
		if _, ok := ir.At(p, n); ok {
			t.Errorf("P8.1: %s: an instruction at the last point", name)
		}
		text := ir.Print(p)
		if got := strings.Count(text, "\n"); got != n+1+len(p.Funcs)+blocks(p) || !strings.HasSuffix(text, "\n") {
			t.Errorf("P8.2: %s: %d lines", name, got)
		}
	}
}

// blocks tells how many p has in all.
func blocks(p *api.Program) int {
	n := 0
	for _, f := range p.Funcs {
		n += len(f.Blocks)
	}
	return n
}

func TestManyArgs(t *testing.T) {
	const n = 1 << 18
	i := api.Instr{Op: api.OCallI, A: 7, Args: slices.Repeat([]int{3}, n)}
	if got := ir.Uses(i); len(got) != n+1 || got[0] != 7 || got[n] != 3 {
		t.Errorf("P8.1: %d registers", len(got))
	}
	if got, want := ir.Line(i), "r0 = call r7.0("+strings.Repeat("r3, ", n-1)+"r3)"; got != want {
		t.Errorf("P8.2: a line of %d bytes, want %d", len(got), len(want))
	}
}
