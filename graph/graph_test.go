package graph_test

import (
	"fmt"
	"math"
	"testing"

	"haruspex/graph"
)

// of gives a graph with the lists to.
func of(to ...[]int) graph.Graph { return graph.Graph{N: len(to), To: to} }

// same holds what was told against the text that is wanted.
func same(t *testing.T, what string, want string, got ...any) {
	t.Helper()
	if told := fmt.Sprint(got...); told != want {
		t.Errorf("P5.1: %s: %s, want %s", what, told, want)
	}
}

// wrong are graphs that may not be.
func wrong() map[string]graph.Graph {
	full := make([][]int, 600)
	full[599] = []int{0, 599, 600}
	return map[string]graph.Graph{
		"N is -1":                  {N: -1},
		"N is -1, one list":        {N: -1, To: [][]int{{}}},
		"N is the least int":       {N: math.MinInt},
		"N is the greatest int":    {N: math.MaxInt, To: [][]int{{0}}},
		"N is 2^32":                {N: 1 << 32},
		"N is 2^32 + 1, one list":  {N: 1<<32 + 1, To: [][]int{{0}}},
		"601 nodes":                {N: 601, To: make([][]int, 601)},
		"5,000 nodes":              {N: 5000, To: make([][]int, 5000)},
		"no list":                  {N: 1},
		"no list, spare room":      {N: 1, To: [][]int{{0}}[:0]},
		"a list too few":           {N: 2, To: [][]int{{1}}},
		"a list too many":          {N: 2, To: [][]int{{1}, {0}, {}}},
		"no node, a list":          {N: 0, To: [][]int{nil}},
		"an edge to N":             of([]int{1}),
		"an edge to -1":            of([]int{-1}, []int{0}),
		"the last edge, to N":      of([]int{1, 0}, []int{0, 1, 2}),
		"an edge in between, to N": of([]int{0}, []int{0, 3, 1}, []int{0}),
		"an edge of 600, to 600":   {N: 600, To: full},
		"an edge to the least":     of([]int{0}, []int{math.MinInt}),
		"an edge to the greatest":  of([]int{math.MaxInt}, []int{0}),
		"an edge to 2^32":          of([]int{1 << 32}, []int{0}),
		"an edge to 2^32 - 1":      of([]int{0}, []int{1<<32 - 1}),
	}
}

// numbers are nodes of small graphs, and numbers that are no nodes.
func numbers() []int {
	return []int{0, 1, 2, 599, 600, 601, 4999, 5000, 1 << 32, 1<<32 + 1, math.MaxInt, -1, -2, -600, math.MinInt}
}

func TestMay(t *testing.T) {
	for name, g := range wrong() {
		if graph.May(g) {
			t.Errorf("P5.1: May: %s", name)
		}
	}
	for name, g := range map[string]graph.Graph{
		"zero":                {},
		"no nodes":            {N: 0, To: [][]int{}},
		"no nodes, room":      {N: 0, To: [][]int{{9}}[:0]},
		"one":                 of(nil),
		"one, a loop":         of([]int{0}),
		"often":               of([]int{1, 1, 1, 0, 1}, []int{0, 0}),
		"wrong in spare room": of([]int{0, 1}[:1]),
		"600":                 {N: 600, To: make([][]int, 600)},
		"600, first and last": ring(600),
	} {
		if !graph.May(g) {
			t.Errorf("P5.1: not May: %s", name)
		}
	}
}

func TestOfThoseThatMayNotBeAllIsNone(t *testing.T) {
	for name, g := range wrong() {
		if turned := graph.Turn(g); turned.N != 0 || turned.To != nil {
			t.Errorf("P5.1: Turn: %s: %v", name, turned)
		}
		reach, loops := graph.Reach(g, numbers()), graph.Loops(g)
		if reach.Len() != 0 || graph.Reach(g, nil).Len() != 0 || loops.Len() != 0 {
			t.Errorf("P5.1: sets: %s: %v, %v", name, reach.All(), loops.All())
		}
		if parts := graph.Parts(g); len(parts) != 0 {
			t.Errorf("P5.1: Parts: %s: %v", name, parts)
		}
		for _, a := range numbers() {
			if l := graph.Order(g, a); len(l) != 0 {
				t.Errorf("P5.1: Order: %s, %d: %v", name, a, l)
			}
			for _, b := range numbers() {
				if l := graph.Path(g, a, b); l != nil {
					t.Errorf("P5.1: Path: %s, %d, %d: %v", name, a, b, l)
				}
			}
		}
	}
}

func TestNoNodes(t *testing.T) {
	for _, g := range []graph.Graph{{}, {To: [][]int{}}} {
		same(t, "Turn", "{0 []}", graph.Turn(g))
		same(t, "Parts", "[]", graph.Parts(g))
		same(t, "sets", "[] [] []", graph.Reach(g, nil).All(), graph.Reach(g, numbers()).All(), graph.Loops(g).All())
		for _, a := range numbers() {
			same(t, "Order, Path", "[] []", graph.Order(g, a), graph.Path(g, a, a))
		}
	}
}

func TestTurn(t *testing.T) {
	same(t, "none", "{3 [[] [] []]}", graph.Turn(of(nil, []int{}, nil)))
	same(t, "a loop", "{1 [[0]]}", graph.Turn(of([]int{0})))
	same(t, "each as often as it stood", "{2 [[0 1 1] [0 0 0]]}", graph.Turn(of([]int{1, 0, 1, 1}, []int{0, 0})))
	same(t, "rising", "{4 [[1 2 3] [0 3] [] [0 1 2]]}", graph.Turn(of([]int{3, 1}, []int{3, 0}, []int{0, 3}, []int{1, 0})))
	g := graph.Turn(graph.Turn(of([]int{2, 0, 2}, []int{2}, []int{1, 0})))
	same(t, "twice", "{3 [[0 2 2] [2] [0 1]]}", g)
}

func TestReach(t *testing.T) {
	g := of([]int{1}, []int{2, 2}, nil, []int{2}, []int{5, 4}, []int{4}, nil)
	for _, c := range []struct {
		from []int
		want string
	}{
		{nil, "[]"}, {[]int{}, "[]"}, {[]int{2}, "[2]"}, {[]int{6}, "[6]"}, {[]int{1}, "[1 2]"}, {[]int{0}, "[0 1 2]"},
		{[]int{3, 1}, "[1 2 3]"}, {[]int{4}, "[4 5]"}, {[]int{5, 5, 5}, "[4 5]"}, {[]int{6, 5, 0}, "[0 1 2 4 5 6]"},
		{[]int{-1, 7, 3, math.MinInt, math.MaxInt, 4999, 5000}, "[2 3]"}, {[]int{-1, 7, 4999, 600}, "[]"},
	} {
		same(t, fmt.Sprint("Reach ", c.from), c.want, graph.Reach(g, c.from).All())
	}
}

func TestParts(t *testing.T) {
	for _, c := range []struct {
		name string
		g    graph.Graph
		want string
	}{
		{"apart", of(nil, nil, nil), "[[0] [1] [2]]"},
		{"a loop is a part of one", of(nil, []int{1, 1}), "[[0] [1]]"},
		{"all", of([]int{1}, []int{2}, []int{0}), "[[0 1 2]]"},
		{"falling", of(nil, []int{0}, []int{1}, []int{2}), "[[3] [2] [1] [0]]"},
		{"the least that may, not the one that came free last", of([]int{2}, nil, []int{3}, nil), "[[0] [1] [2] [3]]"},
		{"one that comes free, ahead of those that wait", of(nil, []int{0}, nil), "[[1] [0] [2]]"},
		{"free only behind all that reach it", of(nil, []int{0}, nil, []int{0}), "[[1] [2] [3] [0]]"},
		{"by the least node, not the greatest", of([]int{4}, nil, []int{3}, []int{2}, []int{0}), "[[0 4] [1] [2 3]]"},
		{"by the least node of a part, not by the one first found", of([]int{3}, nil, []int{1}, []int{2, 3}, []int{0, 4}), "[[4] [0] [3] [2] [1]]"},
		{"edges that stand often", of([]int{1, 1, 2}, []int{2, 2, 2}, []int{1}, []int{0, 0, 3}), "[[3] [0] [1 2]]"},
		{"two rings, one edge back", of([]int{1}, []int{0}, []int{3, 1}, []int{2}), "[[2 3] [0 1]]"},
		{"two rings, edges each way", of([]int{1, 2}, []int{0}, []int{3}, []int{2, 1}), "[[0 1 2 3]]"},
	} {
		same(t, c.name, c.want, graph.Parts(c.g))
	}
}

func TestOrder(t *testing.T) {
	g := of([]int{1, 2}, []int{3}, []int{3, 2}, []int{1, 4}, nil, []int{0})
	same(t, "by To's order", "[0 2 1 3 4]", graph.Order(g, 0))
	g.To[0] = []int{2, 1}
	same(t, "by To's order, turned", "[0 2 3 4 1]", graph.Order(g, 0))
	same(t, "from others", "[1 3 4] [2 3 4 1] [3 4 1] [4] [5 0 2 3 4 1]",
		graph.Order(g, 1), graph.Order(g, 2), graph.Order(g, 3), graph.Order(g, 4), graph.Order(g, 5))
	// In the order in which they are found, in depth or in breadth, 2 would stand ahead of 1.
	same(t, "in depth", "[0 1 2 3]", graph.Order(of([]int{2, 1}, []int{2}, []int{3}, nil), 0))
	same(t, "edges that stand often", "[1 0]", graph.Order(of([]int{0, 1, 0}, []int{1, 0, 0, 1}), 1))
	for _, from := range []int{-1, 6, 600, 5000, math.MinInt, math.MaxInt, 1 << 32} {
		if l := graph.Order(g, from); len(l) != 0 {
			t.Errorf("P5.1: Order(%d): %v", from, l)
		}
	}
}

func TestPath(t *testing.T) {
	g := of([]int{4, 3, 1}, []int{5}, nil, []int{5, 6}, []int{2, 5, 6, 4}, []int{7}, []int{7, 0}, []int{7})
	for _, c := range []struct {
		from, to int
		want     string
	}{
		{0, 0, "[0]"}, {7, 7, "[7]"}, {2, 2, "[2]"}, {4, 4, "[4]"}, {0, 4, "[0 4]"}, {0, 5, "[0 1 5]"}, {0, 6, "[0 3 6]"},
		{0, 7, "[0 1 5 7]"}, {0, 2, "[0 4 2]"}, {4, 7, "[4 5 7]"}, {3, 7, "[3 5 7]"}, {6, 5, "[6 0 1 5]"}, {4, 3, "[4 6 0 3]"},
	} {
		same(t, fmt.Sprint("Path ", c.from, c.to), c.want, graph.Path(g, c.from, c.to))
	}
	for _, c := range [][2]int{{7, 0}, {2, 4}, {5, 0}, {1, 6}, {2, 7}} {
		if l := graph.Path(g, c[0], c[1]); l != nil {
			t.Errorf("P5.1: Path%v: %v", c, l)
		}
	}
	for _, a := range []int{-1, 8, 600, 5000, 1 << 32, math.MinInt, math.MaxInt} {
		if graph.Path(g, a, 0) != nil || graph.Path(g, 0, a) != nil || graph.Path(g, a, a) != nil {
			t.Errorf("P5.1: Path: %d is no node", a)
		}
	}
}

// The least way is least from its beginning on, not from its end, and a shorter one goes ahead of a lesser one.
func TestPathIsTheLeast(t *testing.T) {
	same(t, "a lesser beginning that does not get there", "[0 2 3]", graph.Path(of([]int{1, 2}, nil, []int{3}, nil), 0, 3))
	same(t, "from the beginning on, not from the end", "[0 1 4 5]", graph.Path(of([]int{2, 1}, []int{4}, []int{3}, []int{5}, []int{5}, nil), 0, 5))
	same(t, "a shorter one", "[0 4 3]", graph.Path(of([]int{1, 4}, []int{2}, []int{3}, nil, []int{3}), 0, 3))
}

func TestLoops(t *testing.T) {
	same(t, "none", "[]", graph.Loops(of([]int{1, 2}, []int{2}, nil)).All())
	same(t, "by one edge", "[1]", graph.Loops(of([]int{1}, []int{2, 1}, nil)).All())
	same(t, "by more", "[1 2 4]", graph.Loops(of([]int{1}, []int{2}, []int{1, 3}, nil, []int{4})).All())
	same(t, "ways in and out are none", "[1 2]", graph.Loops(of([]int{1}, []int{2}, []int{1, 3}, []int{4}, nil)).All())
}
