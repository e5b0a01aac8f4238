package dom_test

import (
	"fmt"
	"math"
	"slices"
	"testing"

	"haruspex/dom"
	"haruspex/graph"
)

// of gives a graph with the lists to.
func of(to ...[]int) graph.Graph { return graph.Graph{N: len(to), To: to} }

// numbers are nodes of small graphs, and numbers that are no nodes.
func numbers() []int {
	return []int{0, 1, 2, 599, 600, 601, 4999, 5000, 1 << 32, 1<<32 + 1, math.MaxInt, -1, -2, -600, math.MinInt}
}

func TestUpAndDepth(t *testing.T) {
	for _, c := range []struct {
		name      string
		g         graph.Graph
		root      int
		up, depth string
	}{
		{"one", of(nil), 0, "[0]", "[0]"},
		{"a loop", of([]int{0, 0}), 0, "[0]", "[0]"},
		{"two", of([]int{1}, nil), 0, "[0 0]", "[0 1]"},
		{"two, there and back", of([]int{1}, []int{0, 1}), 0, "[0 0]", "[0 1]"},
		{"not reached", of([]int{1}, nil), 1, "[-1 1]", "[-1 0]"},
		{"none reached", of(nil, nil, nil), 1, "[-1 1 -1]", "[-1 0 -1]"},
		{"a chain", of([]int{1}, []int{2}, []int{3}, nil), 0, "[0 0 1 2]", "[0 1 2 3]"},
		{"a chain that falls", of(nil, []int{0}, []int{1}, []int{2}), 3, "[1 2 3 3]", "[3 2 1 0]"},
		{"two sides", of([]int{1, 2}, []int{3}, []int{3}, nil), 0, "[0 0 0 0]", "[0 1 1 1]"},
		{"two sides, one long", of([]int{1, 4}, []int{2}, []int{3}, nil, []int{3}), 0, "[0 0 1 0 0]", "[0 1 2 1 1]"},
		{"a way around", of([]int{1, 2}, []int{2}, nil), 0, "[0 0 0]", "[0 1 1]"},
		{"a way around, the long way first", of([]int{2, 1}, nil, []int{1}), 0, "[0 0 0]", "[0 1 1]"},
		{"an edge back counts nothing", of([]int{1}, []int{2}, []int{3, 1}, []int{0, 2}), 0, "[0 0 1 2]", "[0 1 2 3]"},
		{"a loop with two ways in", of([]int{1, 2}, []int{2}, []int{1, 3}, nil), 0, "[0 0 0 2]", "[0 1 1 2]"},
		{"edges that stand often", of([]int{1, 1}, []int{2, 2, 2}, nil), 0, "[0 0 1]", "[0 1 2]"},
		{"edges from those that are not reached", of([]int{1}, []int{2}, nil, []int{2, 0, 1}), 0, "[0 0 1 -1]", "[0 1 2 -1]"},
		{"root in a loop", of([]int{1}, []int{2}, []int{0}), 1, "[2 1 1]", "[2 0 1]"},
		{"by a way around of several steps", of([]int{1, 5}, []int{2}, []int{3}, []int{4}, nil, []int{6}, []int{3}), 0, "[0 0 1 0 3 0 5]", "[0 1 2 1 2 1 2]"},
		{"the way around ends above its own", of([]int{1}, []int{2, 4}, []int{3}, []int{5}, []int{3}, nil), 0, "[0 0 1 1 1 3]", "[0 1 2 2 2 3]"},
	} {
		up := dom.Up(c.g, c.root)
		if got := fmt.Sprint(up); got != c.up {
			t.Errorf("P6.1: Up: %s: %s, want %s", c.name, got, c.up)
		}
		if got := fmt.Sprint(dom.Depth(up)); got != c.depth {
			t.Errorf("P6.1: Depth: %s: %s, want %s", c.name, got, c.depth)
		}
	}
}

// The graph by which Lengauer and Tarjan tell of semidominators: those are often not the immediate dominators.
func TestKnownGraph(t *testing.T) {
	const r, a, b, c, d, e, f, g, h, i, j, k, l = 0, 1, 2, 3, 4, 5, 6, 7, 8, 9, 10, 11, 12
	up := dom.Up(of([]int{a, b, c}, []int{d}, []int{a, d, e}, []int{f, g}, []int{l}, []int{h}, []int{i}, []int{i, j},
		[]int{e, k}, []int{k}, []int{i}, []int{i, r}, []int{h}), r)
	want := []int{r, r, r, r, r, r, c, c, r, r, g, r, d}
	if !slices.Equal(up, want) {
		t.Errorf("P6.1: Up: %v, want %v", up, want)
	}
	if depth := dom.Depth(up); !slices.Equal(depth, []int{0, 1, 1, 1, 1, 1, 2, 2, 1, 1, 3, 1, 2}) {
		t.Errorf("P6.1: Depth: %v", depth)
	}
}

func TestUpOfNone(t *testing.T) {
	full := make([][]int, 600)
	full[599] = []int{0, 599, 600}
	for name, g := range map[string]graph.Graph{
		"N is -1":               {N: -1},
		"N is the least int":    {N: math.MinInt, To: [][]int{{0}}},
		"N is the greatest int": {N: math.MaxInt, To: [][]int{{0}}},
		"N is 2^32 + 1":         {N: 1<<32 + 1, To: [][]int{{0}}},
		"601 nodes":             {N: 601, To: make([][]int, 601)},
		"no list":               {N: 1},
		"a list too few":        {N: 3, To: [][]int{{1}, {0}}},
		"a list too many":       {N: 2, To: [][]int{{1}, {0}, {}}},
		"an edge to N":          of([]int{1}, []int{0, 2}),
		"an edge to -1":         of([]int{0}, []int{0, -1}, nil),
		"an edge to 2^32":       of([]int{1 << 32}, nil, nil),
		"an edge of 600 to 600": {N: 600, To: full},
		"not reached, wrong":    of([]int{1}, nil, []int{3}),
		"no nodes":              {},
		"no nodes, an empty To": {To: [][]int{}},
		"no nodes, a list":      {To: [][]int{nil}},
	} {
		for _, root := range numbers() {
			if up := dom.Up(g, root); up != nil {
				t.Errorf("P6.1: Up: %s, root %d: %v", name, root, up)
			}
		}
	}
}

func TestUpOfRootsThatAreNoNodes(t *testing.T) {
	g := of([]int{1}, []int{2}, []int{0})
	for _, root := range numbers() {
		if up := dom.Up(g, root); (up != nil) != (0 <= root && root < 3) {
			t.Errorf("P6.1: Up: root %d: %v", root, up)
		}
	}
	empty := graph.Graph{N: 600, To: make([][]int, 600)}
	if up := dom.Up(empty, 599); len(up) != 600 || up[599] != 599 || up[0] != -1 || dom.Up(empty, 600) != nil {
		t.Errorf("P6.1: Up of 600 nodes: %v", up)
	}
}

func TestAbove(t *testing.T) {
	up := dom.Up(of([]int{1, 3}, []int{2}, nil, []int{4, 3}, []int{2, 0}, []int{4, 5}), 0)
	yes := map[[2]int]bool{
		{0, 0}: true, {0, 1}: true, {0, 2}: true, {0, 3}: true, {0, 4}: true,
		{1, 1}: true, {2, 2}: true, {3, 3}: true, {3, 4}: true, {4, 4}: true,
	}
	for _, a := range append(numbers(), 3, 4, 5, 6) {
		for _, b := range append(numbers(), 3, 4, 5, 6) {
			if got := dom.Above(up, a, b); got != yes[[2]int{a, b}] {
				t.Errorf("P6.1: Above(%d, %d): %v", a, b, got)
			}
		}
	}
}

func TestOfNoList(t *testing.T) {
	for _, up := range [][]int{nil, {}, []int{0, 0}[:0]} {
		if depth := dom.Depth(up); len(depth) != 0 {
			t.Errorf("P0.4: Depth: %v", depth)
		}
		for _, a := range numbers() {
			if dom.Above(up, a, a) || dom.Above(up, 0, a) {
				t.Errorf("P0.4: Above: %d", a)
			}
		}
	}
}
