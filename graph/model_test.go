package graph_test

import (
	"slices"
	"testing"

	"haruspex/graph"
)

// dice gives the same numbers at each run.
type dice uint64

func (d *dice) roll(n int) int {
	*d = *d*6364136223846793005 + 1442695040888963407
	return int(uint64(*d)>>33) % n
}

// graph gives one of few nodes, with few edges or many.
func (d *dice) graph() graph.Graph {
	n := 1 + d.roll(8)
	g := graph.Graph{N: n, To: make([][]int, n)}
	for range d.roll(3 * n) {
		a := d.roll(n)
		g.To[a] = append(g.To[a], d.roll(n))
	}
	return g
}

// model has of a graph which node reaches which by an edge or more, to hold the package against.
type model struct {
	g     graph.Graph
	reach [8][8]bool
}

func modelOf(g graph.Graph) *model {
	m := &model{g: g}
	for a, l := range g.To {
		for _, b := range l {
			m.reach[a][b] = true
		}
	}
	for k := range g.N {
		for a := range g.N {
			for b := range g.N {
				m.reach[a][b] = m.reach[a][b] || m.reach[a][k] && m.reach[k][b]
			}
		}
	}
	return m
}

func (m *model) turn() [][]int {
	to := make([][]int, m.g.N)
	for a := range m.g.N {
		for b, l := range m.g.To {
			for _, n := range l {
				if n == a {
					to[a] = append(to[a], b)
				}
			}
		}
	}
	return to
}

// pick gives the nodes for which ok holds.
func (m *model) pick(ok func(a int) bool) []int {
	var l []int
	for a := range m.g.N {
		if ok(a) {
			l = append(l, a)
		}
	}
	return l
}

func (m *model) together(a, b int) bool { return a == b || m.reach[a][b] && m.reach[b][a] }

// parts takes, as long as there are nodes left, the part of the least one that no other part that is left reaches.
func (m *model) parts() [][]int {
	var parts [][]int
	var gone [8]bool
	free := func(a int) bool {
		return !gone[a] && !slices.ContainsFunc(m.pick(func(b int) bool { return !gone[b] }), func(b int) bool {
			return m.reach[b][a] && !m.together(a, b)
		})
	}
	for l := m.pick(free); l != nil; l = m.pick(free) {
		part := m.pick(func(b int) bool { return m.together(l[0], b) })
		for _, b := range part {
			gone[b] = true
		}
		parts = append(parts, part)
	}
	return parts
}

// order puts each node ahead of those that were done with sooner.
func (m *model) order(from int) []int {
	var l []int
	var seen [8]bool
	var visit func(a int)
	visit = func(a int) {
		seen[a] = true
		for _, b := range m.g.To[a] {
			if !seen[b] {
				visit(b)
			}
		}
		l = slices.Insert(l, 0, a)
	}
	visit(from)
	return l
}

// path tries all ways, the short ones first, and of one length the least ones first.
func (m *model) path(from, to int) []int {
	for edges := range m.g.N {
		if way := m.way(from, to, edges); way != nil {
			return way
		}
	}
	return nil
}

func (m *model) way(from, to, edges int) []int {
	if edges == 0 && from == to {
		return []int{to}
	}
	if edges == 0 {
		return nil
	}
	for next := range m.g.N {
		if !slices.Contains(m.g.To[from], next) {
			continue
		}
		if way := m.way(next, to, edges-1); way != nil {
			return append([]int{from}, way...)
		}
	}
	return nil
}

func TestAgainstModel(t *testing.T) {
	d := dice(5)
	for range 4000 {
		g := d.graph()
		m := modelOf(g)
		if !graph.May(g) {
			t.Fatalf("P5.1: May %v", g)
		}
		if got := graph.Turn(g); got.N != g.N || !equal(got.To, m.turn()) {
			t.Fatalf("P5.1: Turn of %v: %v", g, got)
		}
		if got := graph.Parts(g); !equal(got, m.parts()) {
			t.Fatalf("P5.1: Parts of %v: %v, the model %v", g, got, m.parts())
		}
		if got := graph.Loops(g).All(); !slices.Equal(got, m.pick(func(a int) bool { return m.reach[a][a] })) {
			t.Fatalf("P5.1: Loops of %v: %v", g, got)
		}
		from := []int{d.roll(g.N+4) - 2, d.roll(g.N+4) - 2}
		want := m.pick(func(a int) bool {
			return slices.ContainsFunc(from, func(b int) bool { return a == b || b >= 0 && b < g.N && m.reach[b][a] })
		})
		if got := graph.Reach(g, from).All(); !slices.Equal(got, want) {
			t.Fatalf("P5.1: Reach of %v from %v: %v, the model %v", g, from, got, want)
		}
		holdWays(t, m)
	}
}

func holdWays(t *testing.T, m *model) {
	t.Helper()
	for a := range m.g.N {
		if got := graph.Order(m.g, a); !slices.Equal(got, m.order(a)) {
			t.Fatalf("P5.1: Order of %v from %d: %v, the model %v", m.g, a, got, m.order(a))
		}
		for b := range m.g.N {
			if got := graph.Path(m.g, a, b); !slices.Equal(got, m.path(a, b)) {
				t.Fatalf("P5.1: Path of %v from %d to %d: %v, the model %v", m.g, a, b, got, m.path(a, b))
			}
		}
	}
}
