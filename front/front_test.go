package front_test

import (
	"fmt"
	"math"
	"testing"

	"haruspex/bitset"
	"haruspex/front"
	"haruspex/graph"
)

// of gives a graph with the lists to.
func of(to ...[]int) graph.Graph { return graph.Graph{N: len(to), To: to} }

// sets gives one of each list; nil stays nil.
func sets(lists ...[]int) []*bitset.Set {
	fr := make([]*bitset.Set, len(lists))
	for k, l := range lists {
		if l != nil {
			fr[k] = bitset.Of(l...)
		}
	}
	return fr
}

// tell gives the numbers of each set, as one text.
func tell(fr []*bitset.Set) string {
	lists := make([][]int, len(fr))
	for k, s := range fr {
		lists[k] = s.All()
	}
	return fmt.Sprint(lists)
}

// numbers are nodes of small graphs, and numbers that are no nodes.
func numbers() []int {
	return []int{0, 1, 2, 599, 600, 601, 4999, 5000, 1 << 32, 1<<32 + 1, math.MaxInt, -1, -2, -600, math.MinInt}
}

func TestOf(t *testing.T) {
	for _, c := range []struct {
		name string
		g    graph.Graph
		root int
		want string
	}{
		{"one", of(nil), 0, "[[]]"},
		{"an edge from root to itself", of([]int{0, 0}), 0, "[[0]]"},
		{"two", of([]int{1}, nil), 0, "[[] []]"},
		{"back to root", of([]int{1}, []int{0}), 0, "[[0] [0]]"},
		{"back to root from below", of([]int{1}, []int{2}, []int{3}, []int{0}), 0, "[[0] [0] [0] [0]]"},
		{"back to a root that is not the first", of([]int{1}, []int{2}, []int{0}), 1, "[[1] [1] [1]]"},
		{"an edge to itself", of([]int{1}, []int{1, 2}, nil), 0, "[[] [1] []]"},
		{"a chain", of([]int{1}, []int{2}, []int{3}, nil), 0, "[[] [] [] []]"},
		{"two sides", of([]int{1, 2}, []int{3}, []int{3}, nil), 0, "[[] [3] [3] []]"},
		{"two sides, one long", of([]int{1, 4}, []int{2}, []int{3}, nil, []int{3}), 0, "[[] [3] [3] [] [3]]"},
		{"a way around", of([]int{1, 2}, []int{2}, nil), 0, "[[] [2] []]"},
		{"two sides of one that is below", of([]int{1}, []int{2, 3}, []int{4}, []int{4}, nil), 0, "[[] [] [4] [4] []]"},
		{"a loop of two, and on", of([]int{1}, []int{2}, []int{1, 3}, nil), 0, "[[] [1] [1] []]"},
		{"loops in one another", of([]int{1}, []int{2}, []int{3}, []int{2, 1, 4}, nil), 0, "[[] [1] [1 2] [1 2] []]"},
		{"a loop with two ways in", of([]int{1, 2}, []int{2}, []int{1, 3}, nil), 0, "[[] [2] [1] []]"},
		{"edges that stand often", of([]int{1, 1, 2}, []int{2, 2}, nil), 0, "[[] [2] []]"},
		{"none reached but root", of([]int{1, 0}, nil, []int{2, 0, 1}), 1, "[[] [] []]"},
		{"edges from those that are not reached", of([]int{1}, []int{2}, nil, []int{2, 0, 1, 3}), 0, "[[] [] [] []]"},
	} {
		if got := tell(front.Of(c.g, c.root)); got != c.want {
			t.Errorf("P7.1: Of: %s: %s, want %s", c.name, got, c.want)
		}
	}
}

func TestOfNone(t *testing.T) {
	full := make([][]int, 600)
	full[599] = []int{0, 599, 600}
	for name, g := range map[string]graph.Graph{
		"N is -1":               {N: -1},
		"N is the least int":    {N: math.MinInt, To: [][]int{{0}}},
		"N is the greatest int": {N: math.MaxInt, To: [][]int{{0}}},
		"N is 2^32 + 1":         {N: 1<<32 + 1, To: [][]int{{0}}},
		"601 nodes":             {N: 601, To: make([][]int, 601)},
		"no list":               {N: 1},
		"a list too few":        {N: 3, To: [][]int{{1}, {0}}},
		"a list too many":       {N: 2, To: [][]int{{1}, {0}, {}}},
		"an edge to N":          of([]int{1}, []int{0, 2}),
		"an edge to -1":         of([]int{0}, []int{0, -1}, nil),
		"an edge to 2^32":       of([]int{1 << 32}, nil, nil),
		"an edge of 600 to 600": {N: 600, To: full},
		"not reached, wrong":    of([]int{1}, nil, []int{3}),
		"no nodes":              {},
		"no nodes, an empty To": {To: [][]int{}},
		"no nodes, a list":      {To: [][]int{nil}},
	} {
		for _, root := range numbers() {
			if fr := front.Of(g, root); fr != nil {
				t.Errorf("P7.1: Of: %s, root %d: %s", name, root, tell(fr))
			}
		}
	}
}

func TestOfRootsThatAreNoNodes(t *testing.T) {
	g := of([]int{1}, []int{2}, []int{0})
	for _, root := range numbers() {
		if fr := front.Of(g, root); (fr != nil) != (0 <= root && root < 3) {
			t.Errorf("P7.1: Of: root %d: %s", root, tell(fr))
		}
	}
	empty := graph.Graph{N: 600, To: make([][]int, 600)}
	if fr := front.Of(empty, 599); len(fr) != 600 || fr[599].Len() != 0 || front.Of(empty, 600) != nil {
		t.Errorf("P7.1: Of 600 nodes: %s", tell(fr))
	}
}

func TestClosure(t *testing.T) {
	chain := sets([]int{1}, []int{2}, []int{3}, []int{})
	for _, c := range []struct {
		name string
		fr   []*bitset.Set
		from *bitset.Set
		want string
	}{
		{"of no lists", nil, bitset.Of(0, 4999), "[]"},
		{"of an empty list", sets(), bitset.Of(0), "[]"},
		{"from nil", chain, nil, "[]"},
		{"from none", chain, bitset.Of(), "[]"},
		{"nil, from nil", nil, nil, "[]"},
		{"from the end", chain, bitset.Of(3), "[]"},
		{"from's own are not in", chain, bitset.Of(0), "[1 2 3]"},
		{"but where one leads to them", chain, bitset.Of(0, 2), "[1 2 3]"},
		{"itself", sets([]int{0}), bitset.Of(0), "[0]"},
		{"round", sets([]int{1}, []int{2}, []int{0}), bitset.Of(1), "[0 1 2]"},
		{"falling", sets([]int{}, []int{0}, []int{1}, []int{2}), bitset.Of(3), "[0 1 2]"},
		{"others are not asked", sets([]int{1}, nil, []int{3}, []int{2}), bitset.Of(0), "[1]"},
		{"nil sets", sets(nil, nil, []int{0, 1}), bitset.Of(0, 1, 2), "[0 1]"},
		{"from those without a frontier", chain, bitset.Of(4, 5, 600, 4999), "[]"},
		{"to those without a frontier", sets([]int{2, 4999}, []int{0}), bitset.Of(1, 7), "[0 2 4999]"},
	} {
		got := front.Closure(c.fr, c.from)
		if got == nil || fmt.Sprint(got.All()) != c.want {
			t.Errorf("P7.1: Closure: %s: %v, want %s", c.name, got.All(), c.want)
		}
	}
}
