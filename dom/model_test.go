package dom_test

import (
	"math"
	"slices"
	"testing"

	"haruspex/dom"
	"haruspex/graph"
)

// dice gives the same numbers at each run.
type dice uint64

func (d *dice) roll(n int) int {
	*d = *d*6364136223846793005 + 1442695040888963407
	return int(uint64(*d)>>33) % n
}

// graph gives one of n nodes, with few edges or many, in any order.
func (d *dice) graph(n int) graph.Graph {
	g := graph.Graph{N: n, To: make([][]int, n)}
	for range d.roll(3*n + 1) {
		a := d.roll(n)
		g.To[a] = append(g.To[a], d.roll(n))
	}
	return g
}

// without tells of each node whether a way from root leads to it that the node cut is not on.
func without(g graph.Graph, root, cut int) []bool {
	seen := make([]bool, g.N)
	var walk func(n int)
	walk = func(n int) {
		if n == cut || seen[n] {
			return
		}
		seen[n] = true
		for _, m := range g.To[n] {
			walk(m)
		}
	}
	walk(root)
	return seen
}

// model has of each two nodes whether the first one stands on each way from root to the second, which is reached.
type model [][]bool

func modelOf(g graph.Graph, root int) model {
	m := make(model, g.N)
	reached := without(g, root, -1)
	for a := range m {
		m[a] = without(g, root, a)
		for b, other := range m[a] {
			m[a][b] = reached[b] && !other
		}
	}
	return m
}

// over gives those that dominate b, but for b.
func (m model) over(b int) []int {
	var l []int
	for a := range m {
		if a != b && m[a][b] {
			l = append(l, a)
		}
	}
	return l
}

// up gives the one of those over b that all the others are over, too.
func (m model) up(b int) int {
	over := m.over(b)
	for _, a := range over {
		if !slices.ContainsFunc(over, func(c int) bool { return !m[c][a] }) {
			return a
		}
	}
	if m[b][b] {
		return b
	}
	return -1
}

func hold(t *testing.T, g graph.Graph, root int) {
	t.Helper()
	m := modelOf(g, root)
	up := dom.Up(g, root)
	depth := dom.Depth(up)
	if len(up) != g.N || len(depth) != g.N {
		t.Fatalf("P6.1: %v from %d: Up %v, Depth %v", g, root, up, depth)
	}
	for b := range g.N {
		want := -1
		if m[b][b] {
			want = len(m.over(b))
		}
		if up[b] != m.up(b) || depth[b] != want {
			t.Fatalf("P6.1: %v from %d: Up %v, Depth %v, of %d the model has %d, %d", g, root, up, depth, b, m.up(b), want)
		}
		for a := range g.N {
			if dom.Above(up, a, b) != m[a][b] {
				t.Fatalf("P6.1: %v from %d: Above(%d, %d), the model %v", g, root, a, b, m[a][b])
			}
		}
	}
}

// matrix gives the graph of n nodes whose edges are the bits of edges.
func matrix(n, edges int) graph.Graph {
	g := graph.Graph{N: n, To: make([][]int, n)}
	for k := range n * n {
		if edges>>k&1 == 1 {
			g.To[k/n] = append(g.To[k/n], k%n)
		}
	}
	return g
}

func TestAllSmallGraphs(t *testing.T) {
	for n := 1; n <= 4; n++ {
		for edges := range 1 << (n * n) {
			for root := range n {
				hold(t, matrix(n, edges), root)
			}
		}
	}
}

func TestAgainstModel(t *testing.T) {
	d := dice(6)
	for range 6000 {
		n := 1 + d.roll(12)
		hold(t, d.graph(n), d.roll(n))
	}
	for range 60 {
		n := 20 + d.roll(60)
		hold(t, d.graph(n), d.roll(n))
	}
}

// wayUp gives the nodes from n up to where a node stands above itself, or nothing, if there is none.
func wayUp(up []int, n int) []int {
	var way []int
	for n >= 0 && n < len(up) && !slices.Contains(way, n) {
		way = append(way, n)
		if up[n] == n {
			return way
		}
		n = up[n]
	}
	return nil
}

// holdAny holds against the reading that, in lists that are not Up's, a node without a way up to a root is not reached.
func holdAny(t *testing.T, up []int) {
	t.Helper()
	depth := dom.Depth(up)
	if len(depth) != len(up) {
		t.Fatalf("P0.1: Depth(%v): %v", up, depth)
	}
	for b := -1; b <= len(up); b++ {
		way := wayUp(up, b)
		if b >= 0 && b < len(up) && depth[b] != len(way)-1 {
			t.Fatalf("P0.1: Depth(%v): %v, want %d of %d", up, depth, len(way)-1, b)
		}
		for a := -1; a <= len(up); a++ {
			if dom.Above(up, a, b) != slices.Contains(way, a) {
				t.Fatalf("P0.1: Above(%v, %d, %d)", up, a, b)
			}
		}
	}
}

func TestListsThatAreNotUps(t *testing.T) {
	for n := 1; n <= 5; n++ {
		up := slices.Repeat([]int{-1}, n)
		for k := 0; k < n; {
			holdAny(t, up)
			for k = 0; k < n; k++ {
				if up[k]++; up[k] <= n {
					break
				}
				up[k] = -1
			}
		}
	}
	for _, n := range []int{math.MinInt, math.MaxInt, math.MinInt + 1, 1 << 32, 1<<32 + 1, -2, -3} {
		holdAny(t, []int{n})
		holdAny(t, []int{0, n, 1})
		holdAny(t, []int{n, 0, 2, 2})
	}
}
