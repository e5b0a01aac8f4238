package dom_test

import (
	"slices"
	"testing"

	"haruspex/dom"
	"haruspex/graph"
)

// chain gives a graph of n nodes with an edge from each to the next.
func chain(n int) graph.Graph {
	g := graph.Graph{N: n, To: make([][]int, n)}
	for a := range n - 1 {
		g.To[a] = []int{a + 1}
	}
	return g
}

// below gives the list in which above each of n nodes, but for the first, stands the one ahead.
func below(n int) []int {
	l := make([]int, n)
	for a := 1; a < n; a++ {
		l[a] = a - 1
	}
	return l
}

func TestChainOf600(t *testing.T) {
	up := dom.Up(chain(600), 0)
	if !slices.Equal(up, below(600)) {
		t.Errorf("P6.1: Up of a chain: %v", up)
	}
	if depth := dom.Depth(up); depth[599] != 599 || depth[300] != 300 {
		t.Errorf("P6.1: Depth of a chain: %v", depth)
	}
	for a := range 600 {
		if !dom.Above(up, a, 599) || !dom.Above(up, 0, a) || dom.Above(up, 300, a) != (a >= 300) {
			t.Errorf("P6.1: Above in a chain: %d", a)
		}
	}
}

func TestRingOf600(t *testing.T) {
	g := chain(600)
	g.To[599] = []int{0}
	for root := range 600 {
		up := dom.Up(g, root)
		depth := dom.Depth(up)
		for a := range 600 {
			want := (a + 599) % 600
			if a == root {
				want = root
			}
			if up[a] != want || depth[a] != (a+600-root)%600 {
				t.Fatalf("P6.1: a ring from %d: of %d Up %d, Depth %d", root, a, up[a], depth[a])
			}
		}
	}
}

func TestAllEdgesOf600(t *testing.T) {
	g := graph.Graph{N: 600, To: make([][]int, 600)}
	all := make([]int, 600)
	for a := range 600 {
		all[a] = a
		g.To[a] = all
	}
	up := dom.Up(g, 7)
	if !slices.Equal(up, slices.Repeat([]int{7}, 600)) {
		t.Errorf("P6.1: Up of all edges: %v", up)
	}
}

// All edges back of a long chain, and a loop with ways in at both ends: a fixed point is found there only after many rounds.
func TestWhereRoundsAreMany(t *testing.T) {
	g := chain(600)
	for a := range 600 {
		for b := range a {
			if a < 400 || a >= 402 && b == a-1 {
				g.To[a] = append(g.To[a], b)
			}
		}
	}
	g.To[400] = []int{401, 599}
	want := below(600)
	for a := 402; a < 600; a++ {
		want[a] = 400
	}
	want[401] = 400
	if up := dom.Up(g, 0); !slices.Equal(up, want) {
		t.Errorf("P6.1: Up: %v", up)
	}
}

// Each pair of sides meets again below: without marks the ways, 2^199 of them, would be gone one by one.
func TestManyWays(t *testing.T) {
	g := graph.Graph{N: 598, To: make([][]int, 598)}
	want := make([]int, 598)
	for a := 0; a+3 < 598; a += 3 {
		g.To[a] = []int{a + 2, a + 1}
		g.To[a+1], g.To[a+2] = []int{a + 3}, []int{a + 3}
		want[a+1], want[a+2], want[a+3] = a, a, a
	}
	up := dom.Up(g, 0)
	if !slices.Equal(up, want) {
		t.Errorf("P6.1: Up of many ways: %v", up)
	}
	if depth := dom.Depth(up); depth[597] != 199 || depth[596] != 199 || depth[594] != 198 {
		t.Errorf("P6.1: Depth of many ways: %v", depth)
	}
}

func TestLongEdgeLists(t *testing.T) {
	const often = 1 << 20
	g := graph.Graph{N: 4, To: [][]int{slices.Repeat([]int{1}, often), {2}, slices.Repeat([]int{2, 1, 0}, often), slices.Repeat([]int{2}, often)}}
	if up := dom.Up(g, 0); !slices.Equal(up, []int{0, 0, 1, -1}) {
		t.Errorf("P6.1: Up of edges that stand often: %v", up)
	}
}

func TestLongLists(t *testing.T) {
	const n = 1 << 20
	up := below(n)
	depth := dom.Depth(up)
	for a, got := range depth {
		if got != a {
			t.Fatalf("P6.1: Depth of a long list: of %d %d", a, got)
		}
	}
	if !dom.Above(up, 0, n-1) || !dom.Above(up, n-2, n-1) || dom.Above(up, n-1, n-2) {
		t.Error("P6.1: Above of a long list")
	}
	falling := make([]int, n)
	for a := range falling {
		falling[a] = min(a+1, n-1)
	}
	depth = dom.Depth(falling)
	for a, got := range depth {
		if got != n-1-a {
			t.Fatalf("P6.1: Depth of a long list that falls: of %d %d", a, got)
		}
	}
	falling[n-1] = 0
	if depth := dom.Depth(falling); slices.Max(depth) != -1 || slices.Min(depth) != -1 || dom.Above(falling, 1, 1) {
		t.Error("P0.1: a long list that goes round")
	}
}
