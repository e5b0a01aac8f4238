package dom

import (
	"slices"

	"haruspex/graph"
)

// search is a search in depth. It numbers the nodes that it reaches by when it finds them: these are their places.
type search struct {
	g      graph.Graph
	place  []int // of each node, or none
	node   []int // of each place
	parent []int // of each place that from which it was found; of the first one itself
}

// visit goes in depth from the node n, which was found from the place parent. It calls itself once a node on its way:
// the bound of graphs is its own as well.
func (s *search) visit(n, parent int) {
	k := len(s.node)
	s.place[n] = k
	s.node = append(s.node, n)
	s.parent = append(s.parent, parent)
	for _, m := range s.g.To[n] {
		if s.place[m] == none {
			s.visit(m, k)
		}
	}
}

// semis gives of each place that of its semidominator: the least one from which a way leads to it
// on which all in between are greater than it (of the first place itself).
func (s *search) semis() []int {
	back := graph.Turn(s.g)
	semi := make([]int, len(s.node))
	f := newForest(len(s.node))
	// The last place comes first, so that the forest has those that may be in between, and no others.
	for k := len(s.node) - 1; k > 0; k-- {
		semi[k] = s.parent[k]
		for _, n := range back.To[s.node[k]] {
			if s.place[n] != none {
				semi[k] = min(semi[k], f.least(s.place[n]))
			}
		}
		f.link(k, s.parent[k], semi[k])
	}
	return semi
}

// nearest gives of each place that of its immediate dominator, where semi has of each one that of its semidominator.
func (s *search) nearest(semi []int) []int {
	above := slices.Clone(s.parent)
	// The others that dominate a place are those that dominate its parent and do not come behind its semidominator.
	for k := range above {
		for above[k] > semi[k] {
			above[k] = above[above[k]]
		}
	}
	return above
}

// forest has the places whose semidominators are known, each below its parent; the others are tops of their trees.
type forest struct {
	above []int // of each place one on its way up, or none
	low   []int // the least semidominator from each place up to below above; of a top itself
}

// newForest gives one of n tops.
func newForest(n int) *forest {
	f := &forest{above: make([]int, n), low: make([]int, n)}
	for k := range n {
		f.above[k], f.low[k] = none, k
	}
	return f
}

// link puts the top k, whose semidominator is semi, below parent.
func (f *forest) link(k, parent, semi int) {
	f.above[k], f.low[k] = parent, semi
}

// least gives the least semidominator from k up to below its top (of a top itself), and shortens the way there.
func (f *forest) least(k int) int {
	if above := f.above[k]; above != none && f.above[above] != none {
		f.low[k] = min(f.low[k], f.least(above))
		f.above[k] = f.above[above]
	}
	return f.low[k]
}
