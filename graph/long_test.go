package graph_test

import (
	"slices"
	"testing"

	"haruspex/graph"
)

// rising gives the numbers from a to b.
func rising(a, b int) []int {
	l := []int{}
	for n := a; n <= b; n++ {
		l = append(l, n)
	}
	return l
}

// ring gives a graph of n nodes with an edge from each to the next, from the last to the first.
func ring(n int) graph.Graph {
	g := graph.Graph{N: n, To: make([][]int, n)}
	for a := range n {
		g.To[a] = []int{(a + 1) % n}
	}
	return g
}

func equal(a, b [][]int) bool { return slices.EqualFunc(a, b, slices.Equal[[]int]) }

func TestRingOf600(t *testing.T) {
	g := ring(600)
	all := rising(0, 599)
	if !equal(graph.Parts(g), [][]int{all}) {
		t.Error("P5.1: Parts of a ring")
	}
	if !slices.Equal(graph.Order(g, 599), append([]int{599}, rising(0, 598)...)) {
		t.Error("P5.1: Order of a ring")
	}
	if !slices.Equal(graph.Path(g, 0, 599), all) || len(graph.Path(g, 1, 0)) != 600 {
		t.Error("P5.1: Path of a ring")
	}
	if graph.Loops(g).Len() != 600 || graph.Reach(g, []int{300}).Len() != 600 {
		t.Error("P5.1: sets of a ring")
	}
}

func TestChainsOf600(t *testing.T) {
	up, alone := ring(600), [][]int{}
	up.To[599] = nil
	for n := range 600 {
		alone = append(alone, []int{n})
	}
	down := graph.Turn(up)
	if !equal(graph.Parts(up), alone) || graph.Loops(up).Len() != 0 || !slices.Equal(graph.Order(up, 0), rising(0, 599)) {
		t.Error("P5.1: a chain that rises")
	}
	slices.Reverse(alone)
	if !equal(graph.Parts(down), alone) || graph.Loops(down).Len() != 0 || len(graph.Order(down, 599)) != 600 {
		t.Error("P5.1: a chain that falls")
	}
	if graph.Path(up, 599, 0) != nil || len(graph.Path(down, 599, 0)) != 600 {
		t.Error("P5.1: Path of a chain")
	}
	if !slices.Equal(graph.Reach(up, []int{598}).All(), []int{598, 599}) {
		t.Error("P5.1: Reach of a chain")
	}
}

func TestAllEdgesOf600(t *testing.T) {
	all := rising(0, 599)
	g := graph.Graph{N: 600, To: slices.Repeat([][]int{all}, 600)}
	if turned := graph.Turn(g); turned.N != 600 || !equal(turned.To, g.To) {
		t.Error("P5.1: Turn of all edges")
	}
	if !equal(graph.Parts(g), [][]int{all}) || graph.Loops(g).Len() != 600 {
		t.Error("P5.1: Parts of all edges")
	}
	if !slices.Equal(graph.Order(g, 0), all) || !slices.Equal(graph.Path(g, 599, 3), []int{599, 3}) {
		t.Error("P5.1: Order of all edges")
	}
}

// Without marks the ways of this graph, 2^299 of them, would be gone one by one.
func TestManyWays(t *testing.T) {
	g := graph.Graph{N: 600, To: make([][]int, 600)}
	want := []int{}
	for n := range 598 {
		low := n/2*2 + 2
		g.To[n] = []int{low + 1, low}
		if n%2 == 0 {
			want = append(want, n)
		}
	}
	if got := graph.Path(g, 0, 599); !slices.Equal(got, append(want, 599)) {
		t.Errorf("P5.1: Path of many ways: %v", got)
	}
	if len(graph.Parts(g)) != 600 || len(graph.Order(g, 0)) != 599 || graph.Loops(g).Len() != 0 {
		t.Error("P5.1: many ways")
	}
}

func TestLongLists(t *testing.T) {
	const often = 1 << 20
	g := of(slices.Repeat([]int{1}, often), []int{1, 2}, slices.Repeat([]int{2, 1}, often))
	turned := graph.Turn(g)
	if len(turned.To[0]) != 0 || len(turned.To[1]) != 2*often+1 || len(turned.To[2]) != often+1 || !slices.IsSorted(turned.To[1]) {
		t.Error("P5.1: Turn of edges that stand often")
	}
	same(t, "Parts", "[[0] [1 2]]", graph.Parts(g))
	same(t, "Loops", "[1 2]", graph.Loops(g).All())
	same(t, "Order", "[0 1 2]", graph.Order(g, 0))
	same(t, "Path", "[0 1 2]", graph.Path(g, 0, 2))
	same(t, "Reach", "[1 2]", graph.Reach(g, slices.Repeat([]int{-1, 1, 5000, 2}, often)).All())
}
